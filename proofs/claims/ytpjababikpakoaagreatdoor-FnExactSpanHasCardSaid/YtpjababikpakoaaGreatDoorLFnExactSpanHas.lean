/- The program's SpanHas answers as the specification's SpanHas at every argument; it writes into no argument. It leans on the tie: what no other writes of the library's tables and its handle of errors. -/
import Derived.Test.YtpjababikpakoaaGreatDoorF
import Derived.Test.YtpjababikpakoaaGreatDoorW6
import Derived.Deep.RegionWith
import Derived.Test.YtpjababikpakoaaGreatDoorBU
import Derived.Deep.RegionHeld3
import Derived.Lib.SmallJoins
import Derived.Test.YtpjababikpakoaaGreatDoorRows
import Derived.WalkKit
import Derived.ProofKit
import Derived.OpenShut
import Derived.Test.YtpjababikpakoaaGreatDoorTie
import Derived.Test.YtpjababikpakoaaGreatDoorCards
import Derived.Below
import Derived.Carry
import Derived.Test.YtpjababikpakoaaGreatDoorN0
import Derived.Test.YtpjababikpakoaaGreatDoorBJ
import Derived.Test.YtpjababikpakoaaGreatDoorFL
import Derived.Test.YtpjababikpakoaaGreatDoorFI
namespace Go.Proofs.YtpjababikpakoaaGreatDoor

def topI (wd : Int) : Int := if wd = 32 then 2139095040 else if wd = 64 then 9218868437227405312 else 0
def okB (wd n : Int) : Bool := decide ((wd = 32 ∨ wd = 64) ∧ -topI wd ≤ n ∧ n ≤ topI wd)
def pokB (wd lo hi : Int) : Bool := okB wd lo && (okB wd hi && (decide (lo ≤ hi) && ((lo != topI wd) && (hi != -topI wd))))

theorem topI_32 : topI 32 = 2139095040 := rfl
theorem topI_64 : topI 64 = 9218868437227405312 := rfl
theorem topI_no {wd : Int} (h1 : wd ≠ 32) (h2 : wd ≠ 64) : topI wd = 0 := by unfold topI; rw [if_neg h1, if_neg h2]
theorem topI_bd (wd : Int) : 0 ≤ topI wd ∧ topI wd ≤ 9218868437227405312 := by unfold topI; split <;> (try split) <;> omega
theorem okB_in {wd n : Int} (h : okB wd n = true) : (wd = 32 ∨ wd = 64) ∧ -topI wd ≤ n ∧ n ≤ topI wd := by unfold okB at h; exact of_decide_eq_true h
theorem okB_bd {wd n : Int} (h : okB wd n = true) : -9218868437227405312 ≤ n ∧ n ≤ 9218868437227405312 := by
  have := okB_in h; have := topI_bd wd; omega
theorem okB_32 (n : Int) : okB 32 n = decide (-2139095040 ≤ n ∧ n ≤ 2139095040) := by unfold okB; simp [topI_32]
theorem okB_64 (n : Int) : okB 64 n = decide (-9218868437227405312 ≤ n ∧ n ≤ 9218868437227405312) := by unfold okB; simp [topI_64]
theorem okB_no {wd : Int} (n : Int) (h1 : wd ≠ 32) (h2 : wd ≠ 64) : okB wd n = false := by unfold okB; simp [h1, h2]
theorem pokB_in {wd lo hi : Int} (h : pokB wd lo hi = true) : okB wd lo = true ∧ okB wd hi = true ∧ lo ≤ hi ∧ lo < topI wd ∧ -topI wd < hi := by
  unfold pokB at h
  simp only [Bool.and_eq_true, decide_eq_true_eq, bne_iff_ne] at h
  obtain ⟨h1, h2, h3, h4, h5⟩ := h
  have := okB_in h1; have := okB_in h2
  exact ⟨h1, h2, h3, by omega, by omega⟩
theorem pokB_mk {wd lo hi : Int} (h1 : okB wd lo = true) (h2 : okB wd hi = true) (h3 : lo ≤ hi) (h4 : lo < topI wd) (h5 : -topI wd < hi) : pokB wd lo hi = true := by
  unfold pokB
  simp only [Bool.and_eq_true, decide_eq_true_eq, bne_iff_ne]
  exact ⟨h1, h2, h3, by omega, by omega⟩
/-- both answers of a test as one word -/
theorem ret_b {b c : Bool} (h : b = c) : Ending.returned (.bool b) = .returned (.bool c) := by rw [h]
end Go.Proofs.YtpjababikpakoaaGreatDoor

/- BitTop, BitOk and PairOk of the program and of the specification, for every width at once; nothing that was there is written. -/
namespace Go.Proofs.YtpjababikpakoaaGreatDoor
open Go.RowKit


theorem iTop (wd : Int) (w : World) :
    Calls Tryz.prog 35 #[.int .i64 wd] w fun e w' => e = .returned (.int .i64 (topI wd)) ∧ Below w.heap.size w w' := by
  by_cases c1 : wd = 32
  · subst c1; exact iBitTop_32 w
  by_cases c2 : wd = 64
  · subst c2; exact iBitTop_64 w
  rw [topI_no c1 c2]; exact iBitTop_no wd w c1 c2
theorem sTopR (wd : Int) (w : World) :
    Calls Tryz.prog 60 #[.int .i64 wd] w fun e w' => e = .returned (.int .i64 (topI wd)) ∧ w' = w := by
  by_cases c1 : wd = 32
  · subst c1; exact sBitTop_32 w
  by_cases c2 : wd = 64
  · subst c2; exact sBitTop_64 w
  rw [topI_no c1 c2]; exact sBitTop_no wd w c1 c2
theorem iOk (wd n : Int) (w : World) :
    Calls Tryz.prog 96 #[.int .i64 wd, .int .i64 n] w fun e w' => e = .returned (.bool (okB wd n)) ∧ Below w.heap.size w w' := by
  by_cases c1 : wd = 32
  · subst c1; rw [okB_32]
    by_cases h : -2139095040 ≤ n ∧ n ≤ 2139095040
    · rw [decide_eq_true h]; exact iBitOk_32 n h.1 h.2 w
    · rw [decide_eq_false h]; exact iBitOk_32_out n h w
  by_cases c2 : wd = 64
  · subst c2; rw [okB_64]
    by_cases h : -9218868437227405312 ≤ n ∧ n ≤ 9218868437227405312
    · rw [decide_eq_true h]; exact iBitOk_64 n h.1 h.2 w
    · rw [decide_eq_false h]; exact iBitOk_64_out n h w
  rw [okB_no n c1 c2]; exact iBitOk_no wd n c1 c2 w
theorem sOk (wd n : Int) (w : World) :
    Calls Tryz.prog 39 #[.int .i64 wd, .int .i64 n] w fun e w' => e = .returned (.bool (okB wd n)) ∧ Below w.heap.size w w' := by
  by_cases c1 : wd = 32
  · subst c1; rw [okB_32]
    by_cases h : -2139095040 ≤ n ∧ n ≤ 2139095040
    · rw [decide_eq_true h]; exact sBitOk_32 n w h.1 h.2
    · rw [decide_eq_false h]; exact sBitOk_32_out n w h
  by_cases c2 : wd = 64
  · subst c2; rw [okB_64]
    by_cases h : -9218868437227405312 ≤ n ∧ n ≤ 9218868437227405312
    · rw [decide_eq_true h]; exact sBitOk_64 n w h.1 h.2
    · rw [decide_eq_false h]; exact sBitOk_64_out n w h
  rw [okB_no n c1 c2]; exact sBitOk_no wd n w c1 c2

set_option maxHeartbeats 800000 in
theorem iPairOk (wd lo hi : Int) (w : World) :
    Calls Tryz.prog 62 #[.int .i64 wd, .agg #[.int .i64 lo, .int .i64 hi]] w fun e w' => e = .returned (.bool (pokB wd lo hi)) ∧ Below w.heap.size w w' := by
  have c0 : (w.alloc (.cells #[.int .i64 lo, .int .i64 hi] 37)).cell? ⟨w.heap.size, 0, none⟩ = some (.int .i64 lo) := by simp
  have c1 : (w.alloc (.cells #[.int .i64 lo, .int .i64 hi] 37)).cell? ⟨w.heap.size, 1, none⟩ = some (.int .i64 hi) := by simp
  obtain ⟨T1, T2⟩ := topI_bd wd
  have H1 := hd (iOk wd lo)
  have H2 := hd (iOk wd hi)
  have H0 := hd (iTop wd)
  have hp : Hid (pokB wd lo hi = (okB wd lo && (okB wd hi && (decide (lo ≤ hi) && ((lo != topI wd) && (hi != -topI wd)))))) := rfl
  generalize topI wd = T at *
  generalize okB wd lo = b1 at *
  generalize okB wd hi = b2 at *
  generalize pokB wd lo hi = r at *
  go_enter Tryz.func62, Tryz.ntmps62
  go_wp2_with fail
  refine (H0.out _).mono ?_
  rintro e w1 ⟨rfl, hb1⟩
  replace c0 := cell_later hb1 c0
  replace c1 := cell_later hb1 c1
  go_wp2_with fail
  refine (H1.out _).mono ?_
  rintro e w2 ⟨rfl, hb2⟩
  replace c0 := cell_later hb2 c0
  replace c1 := cell_later hb2 c1
  cases b1
  · go_wp2
    go_ret
    exact ⟨ret_b (by rw [hp.out]; rfl), (by repeat (first | exact Below.refl _ _ | refine Below.drew ?_ | refine old_alloc ?_ _ | refine old_trans ?_ (by assumption)))⟩
  go_wp2_with fail
  refine (H2.out _).mono ?_
  rintro e w3 ⟨rfl, hb3⟩
  replace c0 := cell_later hb3 c0
  replace c1 := cell_later hb3 c1
  cases b2
  · go_wp2
    go_ret
    exact ⟨ret_b (by rw [hp.out]; rfl), (by repeat (first | exact Below.refl _ _ | refine Below.drew ?_ | refine old_alloc ?_ _ | refine old_trans ?_ (by assumption)))⟩
  by_cases t1 : lo ≤ hi
  · by_cases t2 : (lo != T) = true
    · go_wp2
      all_goals
        go_ret
        refine ⟨ret_b ?_, (by repeat (first | exact Below.refl _ _ | refine Below.drew ?_ | refine old_alloc ?_ _ | refine old_trans ?_ (by assumption)))⟩
        rw [hp.out]; simp [*]
    · replace t2 : (lo != T) = false := by simpa using t2
      go_wp2
      go_ret
      exact ⟨ret_b (by rw [hp.out, t2]; simp), (by repeat (first | exact Below.refl _ _ | refine Below.drew ?_ | refine old_alloc ?_ _ | refine old_trans ?_ (by assumption)))⟩
  · have t3 : decide (lo ≤ hi) = false := by simpa using t1
    go_wp2
    go_ret
    exact ⟨ret_b (by rw [hp.out, t3]; rfl), (by repeat (first | exact Below.refl _ _ | refine Below.drew ?_ | refine old_alloc ?_ _ | refine old_trans ?_ (by assumption)))⟩
end Go.Proofs.YtpjababikpakoaaGreatDoor

/- PairOk of the specification; inner, PairIs, PairMeet and PairHull of both, at all pairs; nothing that was there is written. -/
namespace Go.Proofs.YtpjababikpakoaaGreatDoor
open Go.RowKit

set_option maxHeartbeats 800000 in
theorem sPairOk (wd lo hi : Int) (w : World) :
    Calls Tryz.prog 59 #[.int .i64 wd, .agg #[.int .i64 lo, .int .i64 hi]] w fun e w' => e = .returned (.bool (pokB wd lo hi)) ∧ Below w.heap.size w w' := by
  have c0 : (w.alloc (.cells #[.int .i64 lo, .int .i64 hi] 37)).cell? ⟨w.heap.size, 0, none⟩ = some (.int .i64 lo) := by simp
  have c1 : (w.alloc (.cells #[.int .i64 lo, .int .i64 hi] 37)).cell? ⟨w.heap.size, 1, none⟩ = some (.int .i64 hi) := by simp
  obtain ⟨T1, T2⟩ := topI_bd wd
  have H1 := hd (sOk wd lo)
  have H2 := hd (sOk wd hi)
  have H0 := hd (sTopR wd)
  have hp : Hid (pokB wd lo hi = (okB wd lo && (okB wd hi && (decide (lo ≤ hi) && ((lo != topI wd) && (hi != -topI wd)))))) := rfl
  have k1 : Hid (okB wd lo = true → -topI wd ≤ lo ∧ lo ≤ topI wd) := fun h => (okB_in h).2
  have k2 : Hid (okB wd hi = true → -topI wd ≤ hi ∧ hi ≤ topI wd) := fun h => (okB_in h).2
  generalize topI wd = T at *
  generalize okB wd lo = b1 at *
  generalize okB wd hi = b2 at *
  generalize pokB wd lo hi = r at *
  go_enter Tryz.func59, Tryz.ntmps59
  go_wp2_with fail
  refine (H0.out _).mono ?_
  rintro e w1 ⟨rfl, rfl⟩
  go_wp2_with fail
  refine (H1.out _).mono ?_
  rintro e w2 ⟨rfl, hb2⟩
  replace c0 := cell_later hb2 c0
  replace c1 := cell_later hb2 c1
  cases b1
  · go_wp2
    go_ret
    exact ⟨ret_b (by rw [hp.out]; rfl), (by repeat (first | exact Below.refl _ _ | refine Below.drew ?_ | refine old_alloc ?_ _ | refine old_trans ?_ (by assumption)))⟩
  go_wp2_with fail
  refine (H2.out _).mono ?_
  rintro e w3 ⟨rfl, hb3⟩
  replace c0 := cell_later hb3 c0
  replace c1 := cell_later hb3 c1
  cases b2
  · go_wp2
    go_ret
    exact ⟨ret_b (by rw [hp.out]; rfl), (by repeat (first | exact Below.refl _ _ | refine Below.drew ?_ | refine old_alloc ?_ _ | refine old_trans ?_ (by assumption)))⟩
  obtain ⟨l1, l2⟩ := k1.out (by simp)
  obtain ⟨l3, l4⟩ := k2.out (by simp)
  by_cases t1 : lo ≤ hi
  · by_cases t2 : lo < T
    · have e1 : Hid ((lo != T) = true) := by show _ = _; rw [bne_iff_ne]; omega
      go_wp2
      all_goals
        go_ret
        refine ⟨ret_b ?_, (by repeat (first | exact Below.refl _ _ | refine Below.drew ?_ | refine old_alloc ?_ _ | refine old_trans ?_ (by assumption)))⟩
        rw [hp.out, e1.out, decide_eq_true t1, Bool.eq_iff_iff]
        simp only [Bool.true_and, decide_eq_true_eq, bne_iff_ne]
        omega
    · have t3 : decide (lo < T) = false := by simpa using t2
      have e1 : Hid ((lo != T) = false) := by show _ = _; simp; omega
      go_wp2
      go_ret
      exact ⟨ret_b (by rw [hp.out, e1.out]; simp), (by repeat (first | exact Below.refl _ _ | refine Below.drew ?_ | refine old_alloc ?_ _ | refine old_trans ?_ (by assumption)))⟩
  · have t3 : decide (lo ≤ hi) = false := by simpa using t1
    go_wp2
    go_ret
    exact ⟨ret_b (by rw [hp.out, t3]; rfl), (by repeat (first | exact Below.refl _ _ | refine Below.drew ?_ | refine old_alloc ?_ _ | refine old_trans ?_ (by assumption)))⟩

theorem ret_p {a b a' b' : Int} (h : a = a') (g : b = b') : Ending.returned (.agg #[.int .i64 a, .int .i64 b]) = .returned (.agg #[.int .i64 a', .int .i64 b']) := by rw [h, g]
set_option maxHeartbeats 400000 in
theorem iInner (a b c d : Int) (w : World) :
    Calls Tryz.prog 97 #[.agg #[.int .i64 a, .int .i64 b], .agg #[.int .i64 c, .int .i64 d]] w fun e w' => e = .returned (.agg #[.int .i64 (max a c), .int .i64 (min b d)]) ∧ Below w.heap.size w w' := by
  go_enter Tryz.func97, Tryz.ntmps97
  go_wp2
  all_goals
    refine bodyPost_ret (v := .agg #[.int .i64 _, .int .i64 _]) (by simp [results, Tryz.results97, go_sem]; exact ⟨rfl, rfl⟩) rfl ⟨ret_p ?_ ?_, (by repeat (first | exact Below.refl _ _ | refine Below.drew ?_ | refine Below.setCell ?_ (by first | (simp; done) | omega | (simp; omega)) _ | refine old_alloc ?_ _ | refine old_trans ?_ (by assumption)))⟩
    · first | rfl | omega
    · first | rfl | omega

theorem eql_pair (a b c d : Int) (w : World) : (binOp .eql 37 (.agg #[.int .i64 a, .int .i64 b]) (.agg #[.int .i64 c, .int .i64 d])).run Tryz.prog w = .ok (.bool (a == c && b == d)) w := by
  have hu : Tryz.prog.underlying 37 = some (.struct (Tryz.prog.fieldsOf 37)) := by kernel_rfl
  have hs : Tryz.prog.stoodInHeld 37 = false := by kernel_rfl
  rw [run_eql_struct, run_equalIn_agg w 9999 37 _ _ hu hs]
  simp [go_sem]
  split <;> (try split) <;> simp [*]
theorem neq_pair (a b c d : Int) (w : World) : (binOp .neq 37 (.agg #[.int .i64 a, .int .i64 b]) (.agg #[.int .i64 c, .int .i64 d])).run Tryz.prog w = .ok (.bool (!(a == c && b == d))) w := by
  have hu : Tryz.prog.underlying 37 = some (.struct (Tryz.prog.fieldsOf 37)) := by kernel_rfl
  have hs : Tryz.prog.stoodInHeld 37 = false := by kernel_rfl
  rw [run_neq_struct, run_equalIn_agg w 9999 37 _ _ hu hs]
  simp [go_sem]
  split <;> (try split) <;> simp [*]
def isB (a b c d : Int) : Bool := decide (c ≤ a ∧ b ≤ d)
set_option maxHeartbeats 400000 in
theorem iPairIs (a b c d : Int) (w : World) :
    Calls Tryz.prog 63 #[.agg #[.int .i64 a, .int .i64 b], .agg #[.int .i64 c, .int .i64 d]] w fun e w' => e = .returned (.bool (isB a b c d)) ∧ Below w.heap.size w w' := by
  have c0 : ((w.alloc (.cells #[.int .i64 a, .int .i64 b] 37)).alloc (.cells #[.int .i64 c, .int .i64 d] 37)).cell? ⟨w.heap.size, 0, none⟩ = some (.int .i64 a) := by simp
  have c1 : ((w.alloc (.cells #[.int .i64 a, .int .i64 b] 37)).alloc (.cells #[.int .i64 c, .int .i64 d] 37)).cell? ⟨w.heap.size, 1, none⟩ = some (.int .i64 b) := by simp
  have H := hd (iInner a b c d)
  have he : Hid ((max a c == a && min b d == b) = isB a b c d) := by
    show _ = _
    unfold isB
    rw [Bool.eq_iff_iff]
    simp only [Bool.and_eq_true, beq_iff_eq, decide_eq_true_eq]
    omega
  generalize max a c = x at *
  generalize min b d = y at *
  have q := fun w => eql_pair x y a b w
  rw [he.out] at q
  generalize isB a b c d = r at *
  go_enter Tryz.func63, Tryz.ntmps63
  go_wp2
  go_region_with (go_at_call 97; refine (H.out _).mono ?_; rintro e w1 ⟨rfl, hb1⟩; have d0 := cell_later hb1 c0; have d1 := cell_later hb1 c1)
  all_goals
    go_wp2
    go_ret
    exact ⟨rfl, (by repeat (first | exact Below.refl _ _ | refine Below.drew ?_ | refine old_alloc ?_ _ | refine old_trans ?_ (by assumption)))⟩
end Go.Proofs.YtpjababikpakoaaGreatDoor

/- Mathematics: a fraction is not below a float just if the float below it is not. Conditions: numbers of 256 digits at most. -/
namespace Go.Proofs.YtpjababikpakoaaGreatDoor
open Go.RowKit
set_option linter.unusedVariables false
set_option maxRecDepth 100000

/-- how often a unit goes into a fraction -/
def qF (A B : Nat) (p : Int) : Nat := uN A p / uD B p
theorem uD_pos {B : Nat} (h : B ≠ 0) (p : Int) : 0 < uD B p := by
  unfold uD
  split
  · omega
  · exact Nat.mul_pos (Nat.two_pow_pos _) (by omega)
theorem qF_next (A B : Nat) (p : Int) (hB : B ≠ 0) : qF A B (p + 1) = qF A B p / 2 := (half_u A B p hB).1
theorem qF_up (A B : Nat) (hB : B ≠ 0) : ∀ (k : Nat) (p : Int), qF A B (p + k) * 2 ^ k ≤ qF A B p
  | 0, p => by simp
  | k + 1, p => by
    have h := qF_up A B hB k p
    rw [show p + ((k + 1 : Nat) : Int) = (p + (k : Int)) + 1 by push_cast; omega, qF_next A B _ hB]
    have e : qF A B (p + ↑k) / 2 * 2 ^ (k + 1) ≤ qF A B (p + ↑k) * 2 ^ k := by
      rw [Nat.pow_succ, Nat.mul_comm (2 ^ k) 2, ← Nat.mul_assoc]
      exact Nat.mul_le_mul_right _ (by omega)
    omega
/-- more than half of what is a unit below -/
theorem qF_lo (A B : Nat) (hB : B ≠ 0) {p q : Int} (h : p < q) : 2 * qF A B q ≤ qF A B p := by
  obtain ⟨k, hk⟩ : ∃ k : Nat, q = p + ((k + 1 : Nat) : Int) := ⟨(q - p - 1).toNat, by omega⟩
  have g := qF_up A B hB (k + 1) p
  rw [← hk] at g
  have e : qF A B q * 2 ≤ qF A B q * 2 ^ (k + 1) := Nat.mul_le_mul_left _ (by
    rw [Nat.pow_succ]; have := Nat.two_pow_pos k; omega)
  omega
theorem le_iff {A B s : Nat} {p : Int} (hB : B ≠ 0) : s * uD B p ≤ uN A p ↔ s ≤ qF A B p := by
  unfold qF
  rw [Nat.le_div_iff_mul_le (uD_pos hB p)]
theorem ge_iff {A B s : Nat} {p : Int} (hB : B ≠ 0) : uN A p ≤ s * uD B p ↔ (if uN A p % uD B p = 0 then qF A B p ≤ s else qF A B p + 1 ≤ s) := by
  have hd := uD_pos hB p
  have e := Nat.div_add_mod (uN A p) (uD B p)
  have hm := Nat.mod_lt (uN A p) hd
  unfold qF
  generalize uN A p / uD B p = q at *
  generalize uN A p % uD B p = r at *
  generalize uD B p = d at *
  generalize uN A p = n at *
  subst e
  by_cases c : r = 0
  · rw [if_pos c, c, Nat.add_zero, Nat.mul_comm d q]
    constructor
    · intro h; exact Nat.le_of_mul_le_mul_right h hd
    · intro h; exact Nat.mul_le_mul_right _ h
  · rw [if_neg c]
    constructor
    · intro h
      apply Nat.lt_of_mul_lt_mul_right (a := d)
      rw [Nat.mul_comm q d]
      omega
    · intro h
      have : (q + 1) * d ≤ s * d := Nat.mul_le_mul_right _ h
      rw [Nat.add_mul, Nat.mul_comm q d] at this
      omega
/-- parts of an order number -/
theorem sp_num (U : Nat) (L : Int) (m : Nat) (hU : 0 < U) : (m : Int) = (pw U L m - L) * U + sz U m := by
  unfold pw sz
  by_cases c : m < U
  · rw [if_pos c, if_pos c]; simp
  · rw [if_neg c, if_neg c]
    have e := Nat.div_add_mod m U
    have h1 : 1 ≤ m / U := (Nat.le_div_iff_mul_le hU).2 (by omega)
    obtain ⟨k, hk⟩ : ∃ k, m / U = k + 1 := ⟨m / U - 1, by omega⟩
    rw [hk] at e ⊢
    have e2 : L + (((k + 1 : Nat) : Int) - 1) - L = (k : Int) := by push_cast; omega
    rw [e2]
    generalize m % U = r at *
    have hm : (m : Int) = (U : Int) * ((k : Int) + 1) + (r : Int) := by rw [← e]; push_cast; rfl
    rw [hm, Int.mul_add, Int.mul_one, Int.mul_comm (U : Int) (k : Int)]
    push_cast
    omega
theorem sp_shape (U : Nat) (L : Int) (m : Nat) (hU : 0 < U) : L ≤ pw U L m ∧ sz U m < 2 * U ∧ (pw U L m = L ∨ U ≤ sz U m) := by
  unfold pw sz
  by_cases c : m < U
  · rw [if_pos c, if_pos c]; exact ⟨by omega, by omega, .inl rfl⟩
  · rw [if_neg c, if_neg c]
    have hm := Nat.mod_lt m hU
    have h1 : 1 ≤ m / U := (Nat.le_div_iff_mul_le hU).2 (by omega)
    exact ⟨by omega, by omega, .inr (by omega)⟩
/-- the float below a fraction, by parts -/
theorem low_iff {A B U : Nat} {L : Int} {S : Nat} {W : Int} (hB : B ≠ 0) (hU : 0 < U) (eS : S = qF A B W) (hS : S < 2 * U) (hn : W = L ∨ U ≤ S) (hW : L ≤ W) (m : Nat) :
    sz U m * uD B (pw U L m) ≤ uN A (pw U L m) ↔ (m : Int) ≤ (W - L) * U + S := by
  rw [le_iff hB]
  obtain ⟨h1, h2, h3⟩ := sp_shape U L m hU
  have e := sp_num U L m hU
  generalize pw U L m = p at *
  generalize sz U m = s at *
  rcases Int.lt_trichotomy p W with c | c | c
  · have q := qF_lo A B hB c
    rw [← eS] at q
    have g : (p - L) * U + U ≤ (W - L) * U := by
      have : (p - L + 1) * (U : Int) ≤ (W - L) * U := Int.mul_le_mul_of_nonneg_right (by omega) (by omega)
      rw [Int.add_mul, Int.one_mul] at this
      exact this
    constructor
    · intro _; omega
    · intro _; omega
  · subst c
    rw [← eS]
    constructor <;> intro _ <;> omega
  · have q := qF_lo A B hB c
    rw [← eS] at q
    have g : (W - L) * U + U ≤ (p - L) * U := by
      have : (W - L + 1) * (U : Int) ≤ (p - L) * U := Int.mul_le_mul_of_nonneg_right (by omega) (by omega)
      rw [Int.add_mul, Int.one_mul] at this
      exact this
    constructor
    · intro _; omega
    · intro _; omega
theorem high_iff {A B U : Nat} {L : Int} {S : Nat} {W : Int} {X : Bool} (hB : B ≠ 0) (hU : 0 < U) (eS : S = qF A B W) (hS : S < 2 * U) (hn : W = L ∨ U ≤ S) (hW : L ≤ W) (hX : X = decide (uN A W % uD B W = 0)) (m : Nat) :
    uN A (pw U L m) ≤ sz U m * uD B (pw U L m) ↔ (W - L) * U + S + (if X = true then 0 else 1) ≤ (m : Int) := by
  rw [ge_iff hB]
  obtain ⟨h1, h2, h3⟩ := sp_shape U L m hU
  have e := sp_num U L m hU
  generalize pw U L m = p at *
  generalize sz U m = s at *
  rcases Int.lt_trichotomy p W with c | c | c
  · have q := qF_lo A B hB c
    rw [← eS] at q
    have g : (p - L) * U + U ≤ (W - L) * U := by
      have : (p - L + 1) * (U : Int) ≤ (W - L) * U := Int.mul_le_mul_of_nonneg_right (by omega) (by omega)
      rw [Int.add_mul, Int.one_mul] at this
      exact this
    constructor
    · intro h; split at h <;> omega
    · intro h; split at h <;> omega
  · subst c
    rw [← eS]
    by_cases r : uN A p % uD B p = 0
    · rw [decide_eq_true r] at hX
      rw [if_pos r, if_pos hX]
      constructor <;> intro _ <;> omega
    · rw [decide_eq_false r] at hX
      rw [if_neg r, if_neg (by rw [hX]; decide)]
      constructor <;> intro _ <;> omega
  · have q := qF_lo A B hB c
    rw [← eS] at q
    have g : (W - L) * U + U ≤ (p - L) * U := by
      have : (W - L + 1) * (U : Int) ≤ (p - L) * U := Int.mul_le_mul_of_nonneg_right (by omega) (by omega)
      rw [Int.add_mul, Int.one_mul] at this
      exact this
    constructor
    · intro h; split <;> omega
    · intro h; split <;> omega
/-- what partBelow finds, by its own power -/
theorem pb_own {A B room : Nat} {least : Int} (hB : B ≠ 0) : pbS A B room least = qF A B (pbW A B room least) ∧ pbX A B room least = decide (uN A (pbW A B room least) % uD B (pbW A B room least) = 0) := by
  rcases pb_case A B room least hB with ⟨-, h2, h3, h4⟩ | ⟨-, h2, h3, h4⟩
  · rw [h2, h3, h4]; exact ⟨rfl, rfl⟩
  · rw [h2, h3, h4]; exact ⟨rfl, rfl⟩
theorem uN_zero (p : Int) : uN 0 p = 0 := by unfold uN; split <;> simp
/-- the finite floats of a width that are not above a fraction -/
theorem below_iff {A B r : Nat} {L top : Int} {Wm : Int} {M : Int} (lA : (natL A).length ≤ 256) (lB : (natL B).length ≤ 256) (hB : B ≠ 0)
    (hM : M = if pbW A B (r + 1) L ≤ Wm then (if pbS A B (r + 1) L = 0 then 0 else (pbW A B (r + 1) L - L) * ((2 ^ r : Nat) : Int) + pbS A B (r + 1) L) else top - 1)
    (X : Bool) (hX : X = (pbX A B (r + 1) L && decide (pbW A B (r + 1) L ≤ Wm))) (m : Nat) (hm : (m : Int) < top) (hp : pw (2 ^ r) L m ≤ Wm) (h0 : A = 0 → pbW A B (r + 1) L ≤ Wm) :
    (sz (2 ^ r) m * uD B (pw (2 ^ r) L m) ≤ uN A (pw (2 ^ r) L m) ↔ (m : Int) ≤ M) ∧ (uN A (pw (2 ^ r) L m) ≤ sz (2 ^ r) m * uD B (pw (2 ^ r) L m) ↔ M + (if X = true then 0 else 1) ≤ (m : Int)) := by
  have hU : 0 < 2 ^ r := Nat.two_pow_pos r
  obtain ⟨eS, eX⟩ := pb_own (A := A) (B := B) (room := r + 1) (least := L) hB
  have hS : pbS A B (r + 1) L < 2 * 2 ^ r := by have := pbS_lt (room := r + 1) (least := L) lA lB hB; rw [Nat.pow_succ] at this; omega
  have hW := pbW_ge A B (r + 1) L
  by_cases a0 : A = 0
  · subst a0
    have z := pb_zero (B := B) (room := r + 1) (least := L)
    rw [if_pos (h0 rfl), if_pos z.1] at hM
    rw [z.2.2, decide_eq_true (h0 rfl)] at hX
    subst hM hX
    rw [uN_zero]
    have hd := uD_pos hB (pw (2 ^ r) L m)
    have e := sp_num (2 ^ r) L m hU
    obtain ⟨g1, g2, g3⟩ := sp_shape (2 ^ r) L m hU
    constructor
    · constructor
      · intro h
        have s0 : sz (2 ^ r) m = 0 := by
          rcases Nat.eq_zero_or_pos (sz (2 ^ r) m) with h' | h'
          · exact h'
          · have := Nat.mul_pos h' hd; omega
        have p0 : pw (2 ^ r) L m = L := by rcases g3 with h' | h'; exact h'; omega
        rw [s0, p0] at e
        simp at e
        omega
      · intro h
        have m0 : m = 0 := by omega
        subst m0
        have : sz (2 ^ r) 0 = 0 := by unfold sz; rw [if_pos hU]
        rw [this]; simp
    · simp
  have hn := pb_norm (r := r) (least := L) lA lB hB a0
  generalize pbW A B (r + 1) L = W at *
  generalize pbS A B (r + 1) L = S at *
  generalize pbX A B (r + 1) L = x at *
  have lo := low_iff hB hU eS hS hn hW m
  have hi := high_iff hB hU eS hS hn hW eX m
  by_cases c : W ≤ Wm
  · rw [if_pos c] at hM
    rw [decide_eq_true c, Bool.and_true] at hX
    subst hX
    have eM : M = (W - L) * ((2 ^ r : Nat) : Int) + S := by
      by_cases s0 : S = 0
      · rw [if_pos s0] at hM
        rcases hn with h | h
        · rw [hM, h, s0]; simp
        · omega
      · rw [if_neg s0] at hM; exact hM
    rw [eM]
    exact ⟨lo, hi⟩
  · rw [if_neg c] at hM
    rw [decide_eq_false c, Bool.and_false] at hX
    subst hM hX
    -- all finite floats lie below
    have q := qF_lo A B hB (show pw (2 ^ r) L m < W by omega)
    rw [← eS] at q
    obtain ⟨g1, g2, g3⟩ := sp_shape (2 ^ r) L m hU
    have big : sz (2 ^ r) m < qF A B (pw (2 ^ r) L m) := by
      rcases hn with h | h
      · omega
      · omega
    constructor
    · rw [le_iff hB]
      constructor <;> intro _ <;> omega
    · rw [ge_iff hB]
      constructor
      · intro h; split at h <;> omega
      · intro h
        simp at h
        omega
end Go.Proofs.YtpjababikpakoaaGreatDoor

/- Two numbers with a sign, compared by the specification; the parts of a float. Conditions: numbers of 100,000 digits at most. Nothing that was there is written. -/
namespace Go.Proofs.YtpjababikpakoaaGreatDoor
open Go.RowKit
set_option linter.unusedVariables false
set_option maxRecDepth 100000

theorem rI_h {b c : Int} (h : c = b) : Ending.returned (.int .i64 b) = .returned (.int .i64 c) := by rw [h]
def cmpS (g1 : Bool) (x : Nat) (g2 : Bool) (y : Nat) : Int :=
  if x = 0 ∧ y = 0 then 0 else if g1 = true ∧ x ≠ 0 then (if g2 = true ∧ y ≠ 0 then cmpI y x else -1) else if g2 = true ∧ y ≠ 0 then 1 else cmpI x y
theorem sCmpH (a b : Option Addr) (ca cb X Y : Nat) (w : World) (hA : InI w a (natL X).length ca (natL X)) (hB : InI w b (natL Y).length cb (natL Y)) :
    Calls Tryz.prog 95 #[.slice a (natL X).length ca, .slice b (natL Y).length cb] w fun e w' => e = .returned (.int .i64 (cmpI X Y)) ∧ Below w.heap.size w w' := by
  have := sCmp a b _ _ ca cb _ _ w hA hB (digs_natL X) (digs_natL Y) (topped_natL X) (topped_natL Y)
  rw [val_natL, val_natL] at this
  exact this
theorem lenH (X : Nat) : ((natL X).length : Int) = 0 ↔ X = 0 := by
  constructor
  · intro h
    rcases Nat.eq_zero_or_pos X with h' | h'
    · exact h'
    · have := natL_length_pos h'; omega
  · intro h; subst h; rw [natL_zero]; rfl
theorem six_oldH {w' w'' : World} {b b' : Nat} {v0 v1 v2 v3 v4 v5 : Value} (h1 : w'.cell? ⟨b, 0, none⟩ = some v0 ∧ w'.cell? ⟨b, 1, none⟩ = some v1 ∧ w'.cell? ⟨b, 2, none⟩ = some v2) (h2 : w'.cell? ⟨b', 0, none⟩ = some v3 ∧ w'.cell? ⟨b', 1, none⟩ = some v4 ∧ w'.cell? ⟨b', 2, none⟩ = some v5) (k : Below w'.heap.size w' w'') :
    (w''.cell? ⟨b, 0, none⟩ = some v0 ∧ w''.cell? ⟨b, 1, none⟩ = some v1 ∧ w''.cell? ⟨b, 2, none⟩ = some v2) ∧ w''.cell? ⟨b', 0, none⟩ = some v3 ∧ w''.cell? ⟨b', 1, none⟩ = some v4 ∧ w''.cell? ⟨b', 2, none⟩ = some v5 := by
  obtain ⟨a1, a2, a3⟩ := h1
  obtain ⟨a4, a5, a6⟩ := h2
  exact ⟨⟨(k.cell (World.block_lt_of_cell? _ _ a1)).trans a1, (k.cell (World.block_lt_of_cell? _ _ a2)).trans a2, (k.cell (World.block_lt_of_cell? _ _ a3)).trans a3⟩, (k.cell (World.block_lt_of_cell? _ _ a4)).trans a4, (k.cell (World.block_lt_of_cell? _ _ a5)).trans a5, (k.cell (World.block_lt_of_cell? _ _ a6)).trans a6⟩
set_option maxHeartbeats 4000000 in
theorem sL8Cmp (g1 g2 : Bool) (a b c d : Option Addr) (ca cb cc cd A B C E : Nat) (w : World) (hA : InI w a (natL A).length ca (natL A)) (hB : InI w b (natL B).length cb (natL B)) (hC : InI w c (natL C).length cc (natL C)) (hE : InI w d (natL E).length cd (natL E))
    (lA : (natL A).length ≤ 2000) (lB : (natL B).length ≤ 2000) (lC : (natL C).length ≤ 2000) (lE : (natL E).length ≤ 2000) :
    Calls Tryz.prog 61 #[.agg #[.bool g1, .slice a (natL A).length ca, .slice b (natL B).length cb], .agg #[.bool g2, .slice c (natL C).length cc, .slice d (natL E).length cd]] w fun e w' => e = .returned (.int .i64 (cmpS g1 (E * A) g2 (B * C))) ∧ Below w.heap.size w w' := by
  have e0 : Below w.heap.size w ((w.alloc (.cells #[.bool g1, .slice a (natL A).length ca, .slice b (natL B).length cb] 67)).alloc (.cells #[.bool g2, .slice c (natL C).length cc, .slice d (natL E).length cd] 67)) := old_alloc (old_alloc (Below.refl _ _) _) _
  have M1 := hd (sMulN a d ca cd A E _ (hA.old e0) (hE.old e0) (by omega) (by omega))
  have M2 := hd (fun w' (h : Below w.heap.size w w') => sMulN c b cc cb C B w' (hC.old h) (hB.old h) (by omega) (by omega))
  have k1 : ((w.alloc (.cells #[.bool g1, .slice a (natL A).length ca, .slice b (natL B).length cb] 67)).alloc (.cells #[.bool g2, .slice c (natL C).length cc, .slice d (natL E).length cd] 67)).cell? ⟨w.heap.size, 0, none⟩ = some (.bool g1) ∧ ((w.alloc (.cells #[.bool g1, .slice a (natL A).length ca, .slice b (natL B).length cb] 67)).alloc (.cells #[.bool g2, .slice c (natL C).length cc, .slice d (natL E).length cd] 67)).cell? ⟨w.heap.size, 1, none⟩ = some (.slice a (natL A).length ca) ∧ ((w.alloc (.cells #[.bool g1, .slice a (natL A).length ca, .slice b (natL B).length cb] 67)).alloc (.cells #[.bool g2, .slice c (natL C).length cc, .slice d (natL E).length cd] 67)).cell? ⟨w.heap.size, 2, none⟩ = some (.slice b (natL B).length cb) := by simp
  have k2 : ((w.alloc (.cells #[.bool g1, .slice a (natL A).length ca, .slice b (natL B).length cb] 67)).alloc (.cells #[.bool g2, .slice c (natL C).length cc, .slice d (natL E).length cd] 67)).cell? ⟨w.heap.size + 1, 0, none⟩ = some (.bool g2) ∧ ((w.alloc (.cells #[.bool g1, .slice a (natL A).length ca, .slice b (natL B).length cb] 67)).alloc (.cells #[.bool g2, .slice c (natL C).length cc, .slice d (natL E).length cd] 67)).cell? ⟨w.heap.size + 1, 1, none⟩ = some (.slice c (natL C).length cc) ∧ ((w.alloc (.cells #[.bool g1, .slice a (natL A).length ca, .slice b (natL B).length cb] 67)).alloc (.cells #[.bool g2, .slice c (natL C).length cc, .slice d (natL E).length cd] 67)).cell? ⟨w.heap.size + 1, 2, none⟩ = some (.slice d (natL E).length cd) := by simp
  have C1 := hd (fun p q cp cq w (h1 : InI w p (natL (B * C)).length cp (natL (B * C))) (h2 : InI w q (natL (E * A)).length cq (natL (E * A))) => sCmpH p q cp cq (B * C) (E * A) w h1 h2)
  have C2 := hd (fun p q cp cq w (h1 : InI w p (natL (E * A)).length cp (natL (E * A))) (h2 : InI w q (natL (B * C)).length cq (natL (B * C))) => sCmpH p q cp cq (E * A) (B * C) w h1 h2)
  have zx := lenH (E * A)
  have zy := lenH (B * C)
  obtain ⟨res, hres⟩ : ∃ r, cmpS g1 (E * A) g2 (B * C) = r := ⟨_, rfl⟩
  rw [hres]
  unfold cmpS at hres
  clear hA hB hC hE lA lB lC lE
  generalize (natL A).length = nA at *
  generalize (natL B).length = nB at *
  generalize (natL C).length = nC at *
  generalize (natL E).length = nE at *
  generalize E * A = x at *
  generalize B * C = y at *
  go_enter Tryz.func61, Tryz.ntmps61
  obtain ⟨k10, k11, k12⟩ := id k1
  obtain ⟨k20, k21, k22⟩ := id k2
  go_wp2_with fail
  refine M1.out.mono ?_
  rintro e w1 ⟨⟨px, cx, rfl, ox⟩, hb1⟩
  have q1 := six_oldH k1 k2 hb1
  clear k10 k11 k12 k20 k21 k22 k1 k2
  obtain ⟨k10, k11, k12⟩ := id q1.1
  obtain ⟨k20, k21, k22⟩ := id q1.2
  have B1 := old_trans e0 hb1
  clear e0 hb1 M1
  go_wp2_with fail
  refine (M2.out _ B1).mono ?_
  rintro e w2 ⟨⟨py, cy, rfl, oy⟩, hb2⟩
  have q2 := six_oldH q1.1 q1.2 hb2
  clear k10 k11 k12 k20 k21 k22
  obtain ⟨k10, k11, k12⟩ := q2.1
  obtain ⟨k20, k21, k22⟩ := q2.2
  have B2 := old_trans B1 hb2
  have ix := (ox.later hb2).inI
  have iy := oy.inI
  clear q1 q2 B1 hb2 M2 ox oy
  have P1 := hd (C1.out _ _ _ _ _ iy ix)
  have P2 := hd (C2.out _ _ _ _ _ ix iy)
  clear C1 C2 ix iy
  generalize cmpI y x = c1 at *
  generalize cmpI x y = c2 at *
  by_cases hx : x = 0
  · have zx' := zx.2 hx
    subst hx
    by_cases hy : y = 0
    · have zy' := zy.2 hy
      subst hy
      clear zx zy P1 P2
      rw [if_pos ⟨rfl, rfl⟩] at hres
      have hq := hd hres
      clear hres
      go_wp2
      go_ret
      exact ⟨rI_h hq.out.symm, B2⟩
    · have ny : 0 < ((natL y).length : Int) := by have : ¬ ((natL y).length : Int) = 0 := fun h => hy (zy.1 h); omega
      have ny' : ¬ ((natL y).length : Int) = 0 := by omega
      clear zx zy
      rw [if_neg (fun h => hy h.2), if_neg (fun h => h.2 rfl)] at hres
      generalize (natL 0).length = l0 at *
      generalize (natL y).length = ly at *
      cases g1
      · cases g2
        · rw [if_neg (by simp)] at hres
          clear P1
          have hq := hd hres
          clear hres
          go_wp2_with fail
          refine P2.out.mono ?_
          rintro e w3 ⟨rfl, hb3⟩
          go_wp2
          go_ret
          exact ⟨rI_h hq.out.symm, old_trans B2 hb3⟩
        · rw [if_pos ⟨rfl, hy⟩] at hres
          clear P1 P2
          have hq := hd hres
          clear hres
          go_wp2
          go_ret
          exact ⟨rI_h hq.out.symm, B2⟩
      · cases g2
        · rw [if_neg (by simp)] at hres
          clear P1
          have hq := hd hres
          clear hres
          go_wp2_with fail
          refine P2.out.mono ?_
          rintro e w3 ⟨rfl, hb3⟩
          go_wp2
          go_ret
          exact ⟨rI_h hq.out.symm, old_trans B2 hb3⟩
        · rw [if_pos ⟨rfl, hy⟩] at hres
          clear P1 P2
          have hq := hd hres
          clear hres
          go_wp2
          go_ret
          exact ⟨rI_h hq.out.symm, B2⟩
  · have nx : 0 < ((natL x).length : Int) := by have : ¬ ((natL x).length : Int) = 0 := fun h => hx (zx.1 h); omega
    have nx' : ((natL x).length : Int) ≠ 0 := by omega
    have nxb : (((natL x).length : Int) == 0) = false := beq_eq_false_iff_ne.2 nx'
    by_cases hy : y = 0
    · have zy' := zy.2 hy
      subst hy
      clear zx zy
      rw [if_neg (fun h => hx h.1)] at hres
      generalize (natL x).length = lx at *
      generalize (natL 0).length = l0 at *
      cases g1
      · rw [if_neg (by simp), if_neg (fun h => h.2 rfl)] at hres
        cases g2
        · clear P1
          have hq := hd hres
          clear hres
          go_wp2_with fail
          refine P2.out.mono ?_
          rintro e w3 ⟨rfl, hb3⟩
          go_wp2
          go_ret
          exact ⟨rI_h hq.out.symm, old_trans B2 hb3⟩
        · clear P1
          have hq := hd hres
          clear hres
          go_wp2_with fail
          refine P2.out.mono ?_
          rintro e w3 ⟨rfl, hb3⟩
          go_wp2
          go_ret
          exact ⟨rI_h hq.out.symm, old_trans B2 hb3⟩
      · rw [if_pos ⟨rfl, hx⟩, if_neg (fun h => h.2 rfl)] at hres
        clear P1 P2
        cases g2
        · have hq := hd hres
          clear hres
          go_wp2
          go_ret
          exact ⟨rI_h hq.out.symm, B2⟩
        · have hq := hd hres
          clear hres
          go_wp2
          go_ret
          exact ⟨rI_h hq.out.symm, B2⟩
    · have ny : 0 < ((natL y).length : Int) := by have : ¬ ((natL y).length : Int) = 0 := fun h => hy (zy.1 h); omega
      clear zx zy
      rw [if_neg (fun h => hx h.1)] at hres
      generalize (natL x).length = lx at *
      generalize (natL y).length = ly at *
      cases g1
      · rw [if_neg (by simp)] at hres
        cases g2
        · rw [if_neg (by simp)] at hres
          clear P1
          have hq := hd hres
          clear hres
          go_wp2_with fail
          refine P2.out.mono ?_
          rintro e w3 ⟨rfl, hb3⟩
          go_wp2
          go_ret
          exact ⟨rI_h hq.out.symm, old_trans B2 hb3⟩
        · rw [if_pos ⟨rfl, hy⟩] at hres
          clear P1 P2
          have hq := hd hres
          clear hres
          go_wp2
          go_ret
          exact ⟨rI_h hq.out.symm, B2⟩
      · rw [if_pos ⟨rfl, hx⟩] at hres
        cases g2
        · rw [if_neg (by simp)] at hres
          clear P1 P2
          have hq := hd hres
          clear hres
          go_wp2
          go_ret
          exact ⟨rI_h hq.out.symm, B2⟩
        · rw [if_pos ⟨rfl, hy⟩] at hres
          clear P2
          have hq := hd hres
          clear hres
          go_wp2_with fail
          refine P1.out.mono ?_
          rintro e w3 ⟨rfl, hb3⟩
          go_wp2
          go_ret
          exact ⟨rI_h hq.out.symm, old_trans B2 hb3⟩
end Go.Proofs.YtpjababikpakoaaGreatDoor

/- Mathematics: bounds of pairs against fractions, with signs, at each width. Conditions: numbers of 256 digits at most. -/
namespace Go.Proofs.YtpjababikpakoaaGreatDoor
open Go.RowKit
set_option linter.unusedVariables false
set_option maxRecDepth 100000

theorem cmpI_le (a b : Nat) : cmpI a b ≤ 0 ↔ a ≤ b := by
  unfold cmpI
  by_cases h : a < b
  · rw [if_pos h]; constructor <;> intro _ <;> omega
  · rw [if_neg h]
    by_cases g : b < a
    · rw [if_pos g]; constructor <;> intro _ <;> omega
    · rw [if_neg g]; constructor <;> intro _ <;> omega
theorem v_uN (A : Nat) (p : Int) : vB p * A = uN A p := by
  unfold vB uN
  by_cases h : 0 ≤ p
  · rw [if_pos h, if_neg (by omega), Nat.one_mul]
  · rw [if_neg h, if_pos (by omega)]
theorem v_uD (B s : Nat) (p : Int) : B * vA s p = s * uD B p := by
  unfold vA uD
  by_cases h : 0 ≤ p
  · rw [if_pos h, if_neg (by omega), Nat.mul_comm B, Nat.mul_assoc, Nat.mul_comm (2 ^ p.toNat), Nat.mul_assoc, Nat.mul_comm B]
  · rw [if_neg h, if_pos (by omega), Nat.mul_comm]
theorem lo_sign {x y m : Nat} {M t n : Int} {bg : Bool} (L1 : x ≤ y ↔ (m : Int) ≤ M) (L2 : y ≤ x ↔ M + t ≤ (m : Int)) (hx : x = 0 ↔ m = 0) (hy : bg = true → y ≠ 0) (hM : 0 ≤ M) (ht : 0 ≤ t) (hn : n.natAbs = m) :
    cmpS (decide (n < 0)) x bg y ≤ 0 ↔ n ≤ (if bg = true then -(M + t) else M) := by
  have c1 := cmpI_le y x
  have c2 := cmpI_le x y
  unfold cmpS
  by_cases g : n < 0
  · have x0 : x ≠ 0 := fun h => by have := hx.1 h; omega
    rw [decide_eq_true g, if_neg (fun h => x0 h.1), if_pos ⟨rfl, x0⟩]
    cases bg
    · rw [if_neg (by simp), if_neg (by simp)]
      constructor <;> intro _ <;> omega
    · rw [if_pos ⟨rfl, hy rfl⟩, if_pos rfl, c1, L2]
      constructor <;> intro _ <;> omega
  · rw [decide_eq_false g]
    cases bg
    · rw [if_neg (c := false = true ∧ x ≠ 0) (by simp), if_neg (c := false = true ∧ y ≠ 0) (by simp), if_neg (c := false = true) (by simp)]
      by_cases z : x = 0 ∧ y = 0
      · rw [if_pos z]
        have := L1.1 (by omega)
        constructor <;> intro _ <;> omega
      · rw [if_neg z, c2, L1]
        constructor <;> intro _ <;> omega
    · have y0 := hy rfl
      rw [if_neg (fun h => y0 h.2), if_neg (c := false = true ∧ x ≠ 0) (by simp), if_pos ⟨rfl, y0⟩, if_pos rfl]
      constructor
      · intro h; omega
      · intro h
        exfalso
        have m0 : m = 0 := by omega
        have x0 := hx.2 m0
        have : ¬ y ≤ x := by omega
        exact this (L2.2 (by omega))
theorem hi_sign {x y m : Nat} {M t n : Int} {bg : Bool} (L1 : x ≤ y ↔ (m : Int) ≤ M) (L2 : y ≤ x ↔ M + t ≤ (m : Int)) (hx : x = 0 ↔ m = 0) (hy : bg = true → y ≠ 0) (hM : 0 ≤ M) (ht : 0 ≤ t) (hn : n.natAbs = m) :
    cmpS bg y (decide (n < 0)) x ≤ 0 ↔ (if bg = true then -M else M + t) ≤ n := by
  have c1 := cmpI_le y x
  have c2 := cmpI_le x y
  unfold cmpS
  by_cases g : n < 0
  · have x0 : x ≠ 0 := fun h => by have := hx.1 h; omega
    rw [decide_eq_true g, if_neg (fun h => x0 h.2)]
    cases bg
    · rw [if_neg (c := false = true ∧ y ≠ 0) (by simp), if_pos ⟨rfl, x0⟩, if_neg (by simp)]
      constructor <;> intro _ <;> omega
    · rw [if_pos ⟨rfl, hy rfl⟩, if_pos ⟨rfl, x0⟩, if_pos rfl, c2, L1]
      constructor <;> intro _ <;> omega
  · rw [decide_eq_false g]
    cases bg
    · rw [if_neg (c := false = true ∧ y ≠ 0) (by simp), if_neg (c := false = true ∧ x ≠ 0) (by simp), if_neg (c := false = true) (by simp)]
      by_cases z : y = 0 ∧ x = 0
      · rw [if_pos z]
        have := L2.1 (by omega)
        constructor <;> intro _ <;> omega
      · rw [if_neg z, c1, L2]
        constructor <;> intro _ <;> omega
    · have y0 := hy rfl
      rw [if_neg (fun h => y0 h.1), if_pos ⟨rfl, y0⟩, if_neg (c := false = true ∧ x ≠ 0) (by simp), if_pos rfl]
      constructor <;> intro _ <;> omega
theorem sz_zero {U m : Nat} (hU : 0 < U) : sz U m = 0 ↔ m = 0 := by
  unfold sz
  by_cases c : m < U
  · rw [if_pos c]
  · rw [if_neg c]; constructor <;> intro _ <;> omega
theorem e2_23 : (2 : Nat) ^ 23 = 8388608 := by decide
theorem zero_w32 (B : Nat) (lB : (natL B).length ≤ 256) : pbW 0 B 24 (-149) ≤ 104 := by
  have z := (pb_zero (B := B) (room := 24) (least := -149)).2.1
  rw [z]
  unfold pbP
  have := bl_zero
  have := (bl_bd lB).1
  omega
theorem near32 {A B : Nat} (lA : (natL A).length ≤ 256) (lB : (natL B).length ≤ 256) (hB : B ≠ 0) (m : Nat) (hm : m < 2139095040) :
    (B * vA (sz 8388608 m) (pw 8388608 (-149) m) ≤ vB (pw 8388608 (-149) m) * A ↔ (m : Int) ≤ blO32 A B) ∧ (vB (pw 8388608 (-149) m) * A ≤ B * vA (sz 8388608 m) (pw 8388608 (-149) m) ↔ blO32 A B + (if blX32 A B = true then 0 else 1) ≤ (m : Int)) := by
  rw [v_uN, v_uD]
  have hp : pw 8388608 (-149) m ≤ 104 := (pw_bd32 hm).2
  have eF : mkF32 (pbW A B 24 (-149)) = decide (pbW A B 24 (-149) ≤ 104) := by unfold mkF32; exact decide_eq_decide.2 (by omega)
  have hM : blO32 A B = if pbW A B (23 + 1) (-149) ≤ 104 then (if pbS A B (23 + 1) (-149) = 0 then 0 else (pbW A B (23 + 1) (-149) - (-149)) * ((2 ^ 23 : Nat) : Int) + pbS A B (23 + 1) (-149)) else 2139095040 - 1 := by
    rw [e2_23]
    unfold blO32 mkO32
    rw [eF]
    by_cases c : pbW A B 24 (-149) ≤ 104
    · rw [decide_eq_true c, if_pos rfl, if_pos rfl]
      exact (if_pos c).symm
    · rw [decide_eq_false c, if_neg (by decide)]
      exact (if_neg c).symm
  have hX : blX32 A B = (pbX A B (23 + 1) (-149) && decide (pbW A B (23 + 1) (-149) ≤ 104)) := by unfold blX32; rw [eF]
  have h := below_iff (r := 23) (L := -149) (top := 2139095040) (Wm := 104) lA lB hB hM _ hX m (by omega) (by rw [e2_23]; exact hp) (fun e => by subst e; exact zero_w32 B lB)
  rw [e2_23] at h
  exact h
theorem loOk32 {A B : Nat} {bg : Bool} (lA : (natL A).length ≤ 256) (lB : (natL B).length ≤ 256) (hB : B ≠ 0) (ha : bg = true → A ≠ 0) (n : Int) (h1 : -2139095040 < n) (h2 : n < 2139095040) :
    cmpS (decide (n < 0)) (B * vA (sz 8388608 n.natAbs) (pw 8388608 (-149) n.natAbs)) bg (vB (pw 8388608 (-149) n.natAbs) * A) ≤ 0 ↔ n ≤ arL32 bg A B := by
  have h := near32 lA lB hB n.natAbs (by omega)
  have bd := blO_bd32 lA lB hB
  have q := lo_sign (n := n) (bg := bg) h.1 h.2 (by rw [v_uD, Nat.mul_eq_zero, sz_zero (by decide)]; have := uD_pos hB (pw 8388608 (-149) n.natAbs); omega) (fun e => Nat.mul_ne_zero (vB_ne _) (ha e)) bd.1 (by split <;> omega) rfl
  rw [q]
  unfold arL32
  cases bg
  · rw [if_neg (by simp), if_neg (by simp)]
  · rw [if_pos rfl, if_pos rfl]
    by_cases c : blX32 A B = true
    · rw [if_pos c, if_pos c, Int.add_zero]
    · rw [if_neg c, if_neg c]
theorem hiOk32 {A B : Nat} {bg : Bool} (lA : (natL A).length ≤ 256) (lB : (natL B).length ≤ 256) (hB : B ≠ 0) (ha : bg = true → A ≠ 0) (n : Int) (h1 : -2139095040 < n) (h2 : n < 2139095040) :
    cmpS bg (vB (pw 8388608 (-149) n.natAbs) * A) (decide (n < 0)) (B * vA (sz 8388608 n.natAbs) (pw 8388608 (-149) n.natAbs)) ≤ 0 ↔ arH32 bg A B ≤ n := by
  have h := near32 lA lB hB n.natAbs (by omega)
  have bd := blO_bd32 lA lB hB
  have q := hi_sign (n := n) (bg := bg) h.1 h.2 (by rw [v_uD, Nat.mul_eq_zero, sz_zero (by decide)]; have := uD_pos hB (pw 8388608 (-149) n.natAbs); omega) (fun e => Nat.mul_ne_zero (vB_ne _) (ha e)) bd.1 (by split <;> omega) rfl
  rw [q]
  unfold arH32
  cases bg <;> by_cases c : blX32 A B = true <;> simp [c]
theorem e2_52 : (2 : Nat) ^ 52 = 4503599627370496 := by decide
theorem zero_w64 (B : Nat) (lB : (natL B).length ≤ 256) : pbW 0 B 53 (-1074) ≤ 971 := by
  have z := (pb_zero (B := B) (room := 53) (least := -1074)).2.1
  rw [z]
  unfold pbP
  have := bl_zero
  have := (bl_bd lB).1
  omega
theorem near64 {A B : Nat} (lA : (natL A).length ≤ 256) (lB : (natL B).length ≤ 256) (hB : B ≠ 0) (m : Nat) (hm : m < 9218868437227405312) :
    (B * vA (sz 4503599627370496 m) (pw 4503599627370496 (-1074) m) ≤ vB (pw 4503599627370496 (-1074) m) * A ↔ (m : Int) ≤ blO64 A B) ∧ (vB (pw 4503599627370496 (-1074) m) * A ≤ B * vA (sz 4503599627370496 m) (pw 4503599627370496 (-1074) m) ↔ blO64 A B + (if blX64 A B = true then 0 else 1) ≤ (m : Int)) := by
  rw [v_uN, v_uD]
  have hp : pw 4503599627370496 (-1074) m ≤ 971 := (pw_bd hm).2
  have eF : mkF64 (pbW A B 53 (-1074)) = decide (pbW A B 53 (-1074) ≤ 971) := by unfold mkF64; exact decide_eq_decide.2 (by omega)
  have hM : blO64 A B = if pbW A B (52 + 1) (-1074) ≤ 971 then (if pbS A B (52 + 1) (-1074) = 0 then 0 else (pbW A B (52 + 1) (-1074) - (-1074)) * ((2 ^ 52 : Nat) : Int) + pbS A B (52 + 1) (-1074)) else 9218868437227405312 - 1 := by
    rw [e2_52]
    unfold blO64 mkO64
    rw [eF]
    by_cases c : pbW A B 53 (-1074) ≤ 971
    · rw [decide_eq_true c, if_pos rfl, if_pos rfl]
      exact (if_pos c).symm
    · rw [decide_eq_false c, if_neg (by decide)]
      exact (if_neg c).symm
  have hX : blX64 A B = (pbX A B (52 + 1) (-1074) && decide (pbW A B (52 + 1) (-1074) ≤ 971)) := by unfold blX64; rw [eF]
  have h := below_iff (r := 52) (L := -1074) (top := 9218868437227405312) (Wm := 971) lA lB hB hM _ hX m (by omega) (by rw [e2_52]; exact hp) (fun e => by subst e; exact zero_w64 B lB)
  rw [e2_52] at h
  exact h
theorem loOk64 {A B : Nat} {bg : Bool} (lA : (natL A).length ≤ 256) (lB : (natL B).length ≤ 256) (hB : B ≠ 0) (ha : bg = true → A ≠ 0) (n : Int) (h1 : -9218868437227405312 < n) (h2 : n < 9218868437227405312) :
    cmpS (decide (n < 0)) (B * vA (sz 4503599627370496 n.natAbs) (pw 4503599627370496 (-1074) n.natAbs)) bg (vB (pw 4503599627370496 (-1074) n.natAbs) * A) ≤ 0 ↔ n ≤ arL64 bg A B := by
  have h := near64 lA lB hB n.natAbs (by omega)
  have bd := blO_bd64 lA lB hB
  have q := lo_sign (n := n) (bg := bg) h.1 h.2 (by rw [v_uD, Nat.mul_eq_zero, sz_zero (by decide)]; have := uD_pos hB (pw 4503599627370496 (-1074) n.natAbs); omega) (fun e => Nat.mul_ne_zero (vB_ne _) (ha e)) bd.1 (by split <;> omega) rfl
  rw [q]
  unfold arL64
  cases bg
  · rw [if_neg (by simp), if_neg (by simp)]
  · rw [if_pos rfl, if_pos rfl]
    by_cases c : blX64 A B = true
    · rw [if_pos c, if_pos c, Int.add_zero]
    · rw [if_neg c, if_neg c]
theorem hiOk64 {A B : Nat} {bg : Bool} (lA : (natL A).length ≤ 256) (lB : (natL B).length ≤ 256) (hB : B ≠ 0) (ha : bg = true → A ≠ 0) (n : Int) (h1 : -9218868437227405312 < n) (h2 : n < 9218868437227405312) :
    cmpS bg (vB (pw 4503599627370496 (-1074) n.natAbs) * A) (decide (n < 0)) (B * vA (sz 4503599627370496 n.natAbs) (pw 4503599627370496 (-1074) n.natAbs)) ≤ 0 ↔ arH64 bg A B ≤ n := by
  have h := near64 lA lB hB n.natAbs (by omega)
  have bd := blO_bd64 lA lB hB
  have q := hi_sign (n := n) (bg := bg) h.1 h.2 (by rw [v_uD, Nat.mul_eq_zero, sz_zero (by decide)]; have := uD_pos hB (pw 4503599627370496 (-1074) n.natAbs); omega) (fun e => Nat.mul_ne_zero (vB_ne _) (ha e)) bd.1 (by split <;> omega) rfl
  rw [q]
  unfold arH64
  cases bg <;> by_cases c : blX64 A B = true <;> simp [c]
end Go.Proofs.YtpjababikpakoaaGreatDoor

/- PairHas of the specification: the walk, what its cases share. Conditions: contracts of what it calls. Nothing that was there is written. -/
namespace Go.Proofs.YtpjababikpakoaaGreatDoor
open Go.RowKit
set_option linter.unusedVariables false
set_option maxRecDepth 100000

theorem five_oldH {w' w'' : World} {b b' : Nat} {v0 v1 v2 v3 v4 : Value} (h : w'.cell? ⟨b, 0, none⟩ = some v0 ∧ w'.cell? ⟨b, 1, none⟩ = some v1 ∧ w'.cell? ⟨b', 0, none⟩ = some v2 ∧ w'.cell? ⟨b', 1, none⟩ = some v3 ∧ w'.cell? ⟨b', 2, none⟩ = some v4) (k : Below w'.heap.size w' w'') :
    w''.cell? ⟨b, 0, none⟩ = some v0 ∧ w''.cell? ⟨b, 1, none⟩ = some v1 ∧ w''.cell? ⟨b', 0, none⟩ = some v2 ∧ w''.cell? ⟨b', 1, none⟩ = some v3 ∧ w''.cell? ⟨b', 2, none⟩ = some v4 := by
  obtain ⟨a1, a2, a3, a4, a5⟩ := h
  exact ⟨(k.cell (World.block_lt_of_cell? _ _ a1)).trans a1, (k.cell (World.block_lt_of_cell? _ _ a2)).trans a2, (k.cell (World.block_lt_of_cell? _ _ a3)).trans a3, (k.cell (World.block_lt_of_cell? _ _ a4)).trans a4, (k.cell (World.block_lt_of_cell? _ _ a5)).trans a5⟩
/-- what is called, and what it answers -/
structure PHc (wd T lo hi : Int) (bg : Bool) (a b : Option Addr) (ca cb nA nB : Nat) (l1 l2 l3 l4 : List Int) (c1 c2 : Int) (sl sh : Bool) (w : World) : Prop where
  po : ∀ w', Calls Tryz.prog 59 #[.int .i64 wd, .agg #[.int .i64 lo, .int .i64 hi]] w' fun e w'' => e = .returned (.bool true) ∧ Below w'.heap.size w' w''
  fo : ∀ w', Below w.heap.size w w' → Calls Tryz.prog 53 #[.agg #[.bool bg, .slice a nA ca, .slice b nB cb]] w' fun e w'' => e = .returned (.bool true) ∧ Below w'.heap.size w' w''
  tp : ∀ w', Calls Tryz.prog 60 #[.int .i64 wd] w' fun e w'' => e = .returned (.int .i64 T) ∧ w'' = w'
  fr : ∀ w', Calls Tryz.prog 55 #[.agg #[.bool bg, .slice a nA ca, .slice b nB cb]] w' fun e w'' => e = .returned (.agg #[.bool bg, .slice a nA ca, .slice b nB cb]) ∧ Below w'.heap.size w' w''
  ol : lo ≠ -T → ∀ w', Calls Tryz.prog 41 #[.int .i64 wd, .int .i64 lo] w' fun e w'' => (∃ av cv bv dv, e = .returned (.agg #[.bool sl, .slice av l1.length cv, .slice bv l2.length dv]) ∧ InI w'' av l1.length cv l1 ∧ InI w'' bv l2.length dv l2) ∧ Below w'.heap.size w' w''
  oh : hi ≠ T → ∀ w', Calls Tryz.prog 41 #[.int .i64 wd, .int .i64 hi] w' fun e w'' => (∃ av cv bv dv, e = .returned (.agg #[.bool sh, .slice av l3.length cv, .slice bv l4.length dv]) ∧ InI w'' av l3.length cv l3 ∧ InI w'' bv l4.length dv l4) ∧ Below w'.heap.size w' w''
  cl : lo ≠ -T → ∀ av cv bv dv w', InI w' av l1.length cv l1 → InI w' bv l2.length dv l2 → Below w.heap.size w w' → Calls Tryz.prog 61 #[.agg #[.bool sl, .slice av l1.length cv, .slice bv l2.length dv], .agg #[.bool bg, .slice a nA ca, .slice b nB cb]] w' fun e w'' => e = .returned (.int .i64 c1) ∧ Below w'.heap.size w' w''
  ch : hi ≠ T → ∀ av cv bv dv w', InI w' av l3.length cv l3 → InI w' bv l4.length dv l4 → Below w.heap.size w w' → Calls Tryz.prog 61 #[.agg #[.bool bg, .slice a nA ca, .slice b nB cb], .agg #[.bool sh, .slice av l3.length cv, .slice bv l4.length dv]] w' fun e w'' => e = .returned (.int .i64 c2) ∧ Below w'.heap.size w' w''
end Go.Proofs.YtpjababikpakoaaGreatDoor

/- PairHas of the specification: the walk, case 1. Conditions: contracts of what it calls. Nothing that was there is written. -/
namespace Go.Proofs.YtpjababikpakoaaGreatDoor
open Go.RowKit
set_option linter.unusedVariables false
set_option maxRecDepth 100000

set_option maxRecDepth 100000 in
set_option maxHeartbeats 16000000 in
theorem PHk0 {wd T lo hi : Int} {bg : Bool} {a b : Option Addr} {ca cb nA nB : Nat} {l1 l2 l3 l4 : List Int} {c1 c2 : Int} {sl sh : Bool} {w : World} (H : PHc wd T lo hi bg a b ca cb nA nB l1 l2 l3 l4 c1 c2 sl sh w) (hT : 0 ≤ T ∧ T ≤ 9218868437227405312) (el : lo = -T) (eh : hi = T) :
    Calls Tryz.prog 26 #[.int .i64 wd, .agg #[.int .i64 lo, .int .i64 hi], .agg #[.bool bg, .slice a nA ca, .slice b nB cb]] w fun e w' => e = .returned (.bool true) ∧ Below w.heap.size w w' := by
  obtain ⟨T0, T1⟩ := hT
  have hw : IntKind.i64.wrap (-T) = -T := by rw [IntKind.wrap_i64]; omega
  have PO := hd H.po
  have FO := hd H.fo
  have TP := hd H.tp
  have FR := hd (fun w' (hS : w'.cell? ⟨w.heap.size, 0, none⟩ = some (.int .i64 lo) ∧ w'.cell? ⟨w.heap.size, 1, none⟩ = some (.int .i64 hi) ∧ w'.cell? ⟨w.heap.size + 1, 0, none⟩ = some (.bool bg) ∧ w'.cell? ⟨w.heap.size + 1, 1, none⟩ = some (.slice a nA ca) ∧ w'.cell? ⟨w.heap.size + 1, 2, none⟩ = some (.slice b nB cb)) => (H.fr w').mono (fun e w'' (k : _ ∧ _) => (⟨k, five_oldH hS k.2⟩ : (_ ∧ _) ∧ (w''.cell? ⟨w.heap.size, 0, none⟩ = some (.int .i64 lo) ∧ w''.cell? ⟨w.heap.size, 1, none⟩ = some (.int .i64 hi) ∧ w''.cell? ⟨w.heap.size + 1, 0, none⟩ = some (.bool bg) ∧ w''.cell? ⟨w.heap.size + 1, 1, none⟩ = some (.slice a nA ca) ∧ w''.cell? ⟨w.heap.size + 1, 2, none⟩ = some (.slice b nB cb)))))
  have gl : (lo == -T) = true := by rw [el]; exact beq_self_eq_true _
  have gh : (hi == T) = true := by rw [eh]; exact beq_self_eq_true _
  clear H el eh
  generalize l1.length = n1 at *
  generalize l2.length = n2 at *
  generalize l3.length = n3 at *
  generalize l4.length = n4 at *
  have e0 : Below w.heap.size w ((w.alloc (.cells #[.int .i64 lo, .int .i64 hi] 37)).alloc (.cells #[.bool bg, .slice a nA ca, .slice b nB cb] 24)) := old_alloc (old_alloc (Below.refl _ _) _) _
  have k0 : ((w.alloc (.cells #[.int .i64 lo, .int .i64 hi] 37)).alloc (.cells #[.bool bg, .slice a nA ca, .slice b nB cb] 24)).cell? ⟨w.heap.size, 0, none⟩ = some (.int .i64 lo) ∧ ((w.alloc (.cells #[.int .i64 lo, .int .i64 hi] 37)).alloc (.cells #[.bool bg, .slice a nA ca, .slice b nB cb] 24)).cell? ⟨w.heap.size, 1, none⟩ = some (.int .i64 hi) ∧ ((w.alloc (.cells #[.int .i64 lo, .int .i64 hi] 37)).alloc (.cells #[.bool bg, .slice a nA ca, .slice b nB cb] 24)).cell? ⟨w.heap.size + 1, 0, none⟩ = some (.bool bg) ∧ ((w.alloc (.cells #[.int .i64 lo, .int .i64 hi] 37)).alloc (.cells #[.bool bg, .slice a nA ca, .slice b nB cb] 24)).cell? ⟨w.heap.size + 1, 1, none⟩ = some (.slice a nA ca) ∧ ((w.alloc (.cells #[.int .i64 lo, .int .i64 hi] 37)).alloc (.cells #[.bool bg, .slice a nA ca, .slice b nB cb] 24)).cell? ⟨w.heap.size + 1, 2, none⟩ = some (.slice b nB cb) := by simp
  go_enter Tryz.func26, Tryz.ntmps26
  obtain ⟨m0, m1, m2, m3, m4⟩ := id k0
  go_wp2_with fail
  refine (PO.out _).mono ?_
  rintro e w1 ⟨rfl, hb1⟩
  have k1 := five_oldH k0 hb1
  have B1 := old_trans e0 hb1
  clear m0 m1 m2 m3 m4 k0 PO
  obtain ⟨m0, m1, m2, m3, m4⟩ := id k1
  go_wp2_with fail
  refine (FO.out _ B1).mono ?_
  rintro e w2 ⟨rfl, hb2⟩
  have k2 := five_oldH k1 hb2
  have hB3 := old_trans B1 hb2
  clear m0 m1 m2 m3 m4 k1 FO e0 B1 hb1 hb2
  obtain ⟨m0, m1, m2, m3, m4⟩ := id k2
  have hk := k2
  go_wp2_with fail
  refine (TP.out _).mono ?_
  rintro e W3 ⟨rfl, rfl⟩
  go_wp2_with fail
  clear TP m0 m1 m2 m3 m4 k2
  have hB3d := hB3.drew
  refine wp_region_held_drew (S := fun w' => w'.cell? ⟨w.heap.size, 0, none⟩ = some (.int .i64 lo) ∧ w'.cell? ⟨w.heap.size, 1, none⟩ = some (.int .i64 hi) ∧ w'.cell? ⟨w.heap.size + 1, 0, none⟩ = some (.bool bg) ∧ w'.cell? ⟨w.heap.size + 1, 1, none⟩ = some (.slice a nA ca) ∧ w'.cell? ⟨w.heap.size + 1, 2, none⟩ = some (.slice b nB cb)) rfl hk ?_
  intro hS
  refine wpAnyH_take (i := 0) (v := ?_) rfl (by kernel_rfl) (by kernel_rfl) (by kernel_rfl) (fun _ _ _ h => h) (Or.inl ⟨by kernel_rfl, ?_⟩) hS ?_
  rotate_left
  · intro w' hS'; obtain ⟨s0, s1, s2, s3, s4⟩ := hS'; go_simp <;> with_reducible rfl
  refine wpAnyH_take (i := 1) (v := ?_) rfl (by kernel_rfl) (by kernel_rfl) (by kernel_rfl) (fun _ _ _ h => h) (Or.inl ⟨by kernel_rfl, ?_⟩) hS ?_
  rotate_left
  · intro w' hS'; obtain ⟨s0, s1, s2, s3, s4⟩ := hS'; go_simp <;> with_reducible rfl
  refine wpAnyH_take (i := 2) (v := ?_) rfl (by kernel_rfl) (by kernel_rfl) (by kernel_rfl) (fun _ _ _ h => h) (Or.inl ⟨by kernel_rfl, ?_⟩) hS ?_
  rotate_left
  · intro w' hS'; obtain ⟨s0, s1, s2, s3, s4⟩ := hS'; go_simp <;> with_reducible rfl
  refine wpAnyH_take (i := 3) (v := ?_) rfl (by kernel_rfl) (by kernel_rfl) (by kernel_rfl) (fun _ _ _ h => h) (Or.inl ⟨by kernel_rfl, ?_⟩) hS ?_
  rotate_left
  · intro w' hS'; obtain ⟨s0, s1, s2, s3, s4⟩ := hS'; go_simp <;> with_reducible rfl
  refine wpAnyH_take (i := 4) (v := ?_) rfl (by kernel_rfl) (by kernel_rfl) (by kernel_rfl) (fun _ _ _ h => h) (Or.inl ⟨by kernel_rfl, ?_⟩) hS ?_
  rotate_left
  · intro w' hS'; obtain ⟨s0, s1, s2, s3, s4⟩ := hS'; go_simp <;> with_reducible rfl
  refine wpAnyH_take (i := 5) (v := ?_) rfl (by kernel_rfl) (by kernel_rfl) (by kernel_rfl) (fun _ _ _ h => h) (Or.inl ⟨by kernel_rfl, ?_⟩) hS ?_
  rotate_left
  · intro w' hS'; obtain ⟨s0, s1, s2, s3, s4⟩ := hS'; go_simp <;> with_reducible rfl
  refine wpAnyH_take (i := 6) (v := undef) rfl (by kernel_rfl) (by kernel_rfl) (by kernel_rfl) (fun _ _ _ h => h) (Or.inr ⟨by kernel_rfl, rfl⟩) hS ?_
  refine wpAnyH_take (i := 7) (v := undef) rfl (by kernel_rfl) (by kernel_rfl) (by kernel_rfl) (fun _ _ _ h => h) (Or.inr ⟨by kernel_rfl, rfl⟩) hS ?_
  refine wpAnyH_take (i := 8) (v := undef) rfl (by kernel_rfl) (by kernel_rfl) (by kernel_rfl) (fun _ _ _ h => h) (Or.inr ⟨by kernel_rfl, rfl⟩) hS ?_
  refine wpAnyH_take (i := 9) (v := undef) rfl (by kernel_rfl) (by kernel_rfl) (by kernel_rfl) (fun _ _ _ h => h) (Or.inr ⟨by kernel_rfl, rfl⟩) hS ?_
  refine wpAnyH_take (i := 10) (v := undef) rfl (by kernel_rfl) (by kernel_rfl) (by kernel_rfl) (fun _ _ _ h => h) (Or.inr ⟨by kernel_rfl, rfl⟩) hS ?_
  refine wpAnyH_take (i := 11) (v := undef) rfl (by kernel_rfl) (by kernel_rfl) (by kernel_rfl) (fun _ _ _ h => h) (Or.inr ⟨by kernel_rfl, rfl⟩) hS ?_
  refine wpAnyH_take (i := 12) (v := undef) rfl (by kernel_rfl) (by kernel_rfl) (by kernel_rfl) (fun _ _ _ h => h) (Or.inr ⟨by kernel_rfl, rfl⟩) hS ?_
  refine wpAnyH_take (i := 13) (v := undef) rfl (by kernel_rfl) (by kernel_rfl) (by kernel_rfl) (fun _ _ _ h => h) (Or.inr ⟨by kernel_rfl, rfl⟩) hS ?_
  refine wpAnyH_take (i := 14) (v := ?_) rfl (by kernel_rfl) (by kernel_rfl) (by kernel_rfl) (fun _ _ _ h => h) (Or.inl ⟨by kernel_rfl, ?_⟩) hS ?_
  rotate_left
  · intro w' hS'; obtain ⟨s0, s1, s2, s3, s4⟩ := hS'; go_simp <;> with_reducible rfl
  refine wpAnyH_take (i := 15) (v := ?_) rfl (by kernel_rfl) (by kernel_rfl) (by kernel_rfl) (fun _ _ _ h => h) (Or.inl ⟨by kernel_rfl, ?_⟩) hS ?_
  rotate_left
  · intro w' hS'; obtain ⟨s0, s1, s2, s3, s4⟩ := hS'; go_simp <;> with_reducible rfl
  refine wpAnyH_take (i := 16) (v := ?_) rfl (by kernel_rfl) (by kernel_rfl) (by kernel_rfl) (fun _ _ _ h => h) (Or.inl ⟨by kernel_rfl, ?_⟩) hS ?_
  rotate_left
  · intro w' hS'; obtain ⟨s0, s1, s2, s3, s4⟩ := hS'; go_simp <;> with_reducible rfl
  refine wpAnyH_take (i := 17) (v := ?_) rfl (by kernel_rfl) (by kernel_rfl) (by kernel_rfl) (fun _ _ _ h => h) (Or.inl ⟨by kernel_rfl, ?_⟩) hS ?_
  rotate_left
  · intro w' hS'; obtain ⟨s0, s1, s2, s3, s4⟩ := hS'; go_simp <;> with_reducible rfl
  refine wpAnyH_take (i := 18) (v := ?_) rfl (by kernel_rfl) (by kernel_rfl) (by kernel_rfl) (fun _ _ _ h => h) (Or.inl ⟨by kernel_rfl, ?_⟩) hS ?_
  rotate_left
  · intro w' hS'; obtain ⟨s0, s1, s2, s3, s4⟩ := hS'; go_simp <;> with_reducible rfl
  refine wpAnyH_take (i := 19) (v := ?_) rfl (by kernel_rfl) (by kernel_rfl) (by kernel_rfl) (fun _ _ _ h => h) (Or.inl ⟨by kernel_rfl, ?_⟩) hS ?_
  rotate_left
  · intro w' hS'; obtain ⟨s0, s1, s2, s3, s4⟩ := hS'; go_simp <;> with_reducible rfl
  refine wpAnyH_take (i := 20) (v := ?_) rfl (by kernel_rfl) (by kernel_rfl) (by kernel_rfl) (fun _ _ _ h => h) (Or.inl ⟨by kernel_rfl, ?_⟩) hS ?_
  rotate_left
  · intro w' hS'; obtain ⟨s0, s1, s2, s3, s4⟩ := hS'; go_simp <;> with_reducible rfl
  refine wpAnyH_take (i := 21) (v := undef) rfl (by kernel_rfl) (by kernel_rfl) (by kernel_rfl) (fun _ _ _ h => h) (Or.inr ⟨by kernel_rfl, rfl⟩) hS ?_
  refine wpAnyH_take (i := 22) (v := undef) rfl (by kernel_rfl) (by kernel_rfl) (by kernel_rfl) (fun _ _ _ h => h) (Or.inr ⟨by kernel_rfl, rfl⟩) hS ?_
  refine wpAnyH_take (i := 23) (v := undef) rfl (by kernel_rfl) (by kernel_rfl) (by kernel_rfl) (fun _ _ _ h => h) (Or.inr ⟨by kernel_rfl, rfl⟩) hS ?_
  refine wpAnyH_take (i := 24) (v := undef) rfl (by kernel_rfl) (by kernel_rfl) (by kernel_rfl) (fun _ _ _ h => h) (Or.inr ⟨by kernel_rfl, rfl⟩) hS ?_
  refine wpAnyH_take (i := 25) (v := undef) rfl (by kernel_rfl) (by kernel_rfl) (by kernel_rfl) (fun _ _ _ h => h) (Or.inr ⟨by kernel_rfl, rfl⟩) hS ?_
  refine wpAnyH_take (i := 26) (v := undef) rfl (by kernel_rfl) (by kernel_rfl) (by kernel_rfl) (fun _ _ _ h => h) (Or.inr ⟨by kernel_rfl, rfl⟩) hS ?_
  refine wpAnyH_take (i := 27) (v := undef) rfl (by kernel_rfl) (by kernel_rfl) (by kernel_rfl) (fun _ _ _ h => h) (Or.inr ⟨by kernel_rfl, rfl⟩) hS ?_
  refine wpAnyH_take (i := 28) (v := undef) rfl (by kernel_rfl) (by kernel_rfl) (by kernel_rfl) (fun _ _ _ h => h) (Or.inr ⟨by kernel_rfl, rfl⟩) hS ?_
  refine wpAnyH_take (i := 29) (v := ?_) rfl (by kernel_rfl) (by kernel_rfl) (by kernel_rfl) (fun _ _ _ h => h) (Or.inl ⟨by kernel_rfl, ?_⟩) hS ?_
  rotate_left
  · intro w' hS'; obtain ⟨s0, s1, s2, s3, s4⟩ := hS'; go_simp <;> with_reducible rfl
  refine wpAnyH_take (i := 30) (v := ?_) rfl (by kernel_rfl) (by kernel_rfl) (by kernel_rfl) (fun _ _ _ h => h) (Or.inl ⟨by kernel_rfl, ?_⟩) hS ?_
  rotate_left
  · intro w' hS'; obtain ⟨s0, s1, s2, s3, s4⟩ := hS'; go_simp <;> with_reducible rfl
  refine wpAnyH_take (i := 31) (v := ?_) rfl (by kernel_rfl) (by kernel_rfl) (by kernel_rfl) (fun _ _ _ h => h) (Or.inl ⟨by kernel_rfl, ?_⟩) hS ?_
  rotate_left
  · intro w' hS'; obtain ⟨s0, s1, s2, s3, s4⟩ := hS'; go_simp <;> with_reducible rfl
  refine wpAnyH_done (by kernel_rfl) ?_ _
  go_wp2
  go_ret
  exact ⟨by kernel_rfl, hB3d⟩
end Go.Proofs.YtpjababikpakoaaGreatDoor

/- PairHas of the specification: the walk, case 2. Conditions: contracts of what it calls. Nothing that was there is written. -/
namespace Go.Proofs.YtpjababikpakoaaGreatDoor
open Go.RowKit
set_option linter.unusedVariables false
set_option maxRecDepth 100000

set_option maxRecDepth 100000 in
set_option maxHeartbeats 16000000 in
theorem PHk1 {wd T lo hi : Int} {bg : Bool} {a b : Option Addr} {ca cb nA nB : Nat} {l1 l2 l3 l4 : List Int} {c1 c2 : Int} {sl sh : Bool} {w : World} (H : PHc wd T lo hi bg a b ca cb nA nB l1 l2 l3 l4 c1 c2 sl sh w) (hT : 0 ≤ T ∧ T ≤ 9218868437227405312) (el : lo = -T) (eh : hi ≠ T) (d2 : decide (c2 ≤ 0) = true) :
    Calls Tryz.prog 26 #[.int .i64 wd, .agg #[.int .i64 lo, .int .i64 hi], .agg #[.bool bg, .slice a nA ca, .slice b nB cb]] w fun e w' => e = .returned (.bool true) ∧ Below w.heap.size w w' := by
  obtain ⟨T0, T1⟩ := hT
  have hw : IntKind.i64.wrap (-T) = -T := by rw [IntKind.wrap_i64]; omega
  have PO := hd H.po
  have FO := hd H.fo
  have TP := hd H.tp
  have FR := hd (fun w' (hS : w'.cell? ⟨w.heap.size, 0, none⟩ = some (.int .i64 lo) ∧ w'.cell? ⟨w.heap.size, 1, none⟩ = some (.int .i64 hi) ∧ w'.cell? ⟨w.heap.size + 1, 0, none⟩ = some (.bool bg) ∧ w'.cell? ⟨w.heap.size + 1, 1, none⟩ = some (.slice a nA ca) ∧ w'.cell? ⟨w.heap.size + 1, 2, none⟩ = some (.slice b nB cb)) => (H.fr w').mono (fun e w'' (k : _ ∧ _) => (⟨k, five_oldH hS k.2⟩ : (_ ∧ _) ∧ (w''.cell? ⟨w.heap.size, 0, none⟩ = some (.int .i64 lo) ∧ w''.cell? ⟨w.heap.size, 1, none⟩ = some (.int .i64 hi) ∧ w''.cell? ⟨w.heap.size + 1, 0, none⟩ = some (.bool bg) ∧ w''.cell? ⟨w.heap.size + 1, 1, none⟩ = some (.slice a nA ca) ∧ w''.cell? ⟨w.heap.size + 1, 2, none⟩ = some (.slice b nB cb)))))
  have gl : (lo == -T) = true := by rw [el]; exact beq_self_eq_true _
  have OH := hd (fun w' (hS : w'.cell? ⟨w.heap.size, 0, none⟩ = some (.int .i64 lo) ∧ w'.cell? ⟨w.heap.size, 1, none⟩ = some (.int .i64 hi) ∧ w'.cell? ⟨w.heap.size + 1, 0, none⟩ = some (.bool bg) ∧ w'.cell? ⟨w.heap.size + 1, 1, none⟩ = some (.slice a nA ca) ∧ w'.cell? ⟨w.heap.size + 1, 2, none⟩ = some (.slice b nB cb)) => (H.oh eh w').mono (fun e w'' (k : _ ∧ _) => (⟨k, five_oldH hS k.2⟩ : (_ ∧ _) ∧ (w''.cell? ⟨w.heap.size, 0, none⟩ = some (.int .i64 lo) ∧ w''.cell? ⟨w.heap.size, 1, none⟩ = some (.int .i64 hi) ∧ w''.cell? ⟨w.heap.size + 1, 0, none⟩ = some (.bool bg) ∧ w''.cell? ⟨w.heap.size + 1, 1, none⟩ = some (.slice a nA ca) ∧ w''.cell? ⟨w.heap.size + 1, 2, none⟩ = some (.slice b nB cb)))))
  have CH := hd (fun av cv bv dv w' (hS : w'.cell? ⟨w.heap.size, 0, none⟩ = some (.int .i64 lo) ∧ w'.cell? ⟨w.heap.size, 1, none⟩ = some (.int .i64 hi) ∧ w'.cell? ⟨w.heap.size + 1, 0, none⟩ = some (.bool bg) ∧ w'.cell? ⟨w.heap.size + 1, 1, none⟩ = some (.slice a nA ca) ∧ w'.cell? ⟨w.heap.size + 1, 2, none⟩ = some (.slice b nB cb)) i1 i2 (h : Below w.heap.size w w') => (H.ch eh av cv bv dv w' i1 i2 h).mono (fun e w'' (k : _ ∧ _) => (⟨k, five_oldH hS k.2⟩ : (_ ∧ _) ∧ (w''.cell? ⟨w.heap.size, 0, none⟩ = some (.int .i64 lo) ∧ w''.cell? ⟨w.heap.size, 1, none⟩ = some (.int .i64 hi) ∧ w''.cell? ⟨w.heap.size + 1, 0, none⟩ = some (.bool bg) ∧ w''.cell? ⟨w.heap.size + 1, 1, none⟩ = some (.slice a nA ca) ∧ w''.cell? ⟨w.heap.size + 1, 2, none⟩ = some (.slice b nB cb)))))
  have gh : (hi == T) = false := beq_eq_false_iff_ne.2 eh
  clear H el eh
  generalize l1.length = n1 at *
  generalize l2.length = n2 at *
  generalize l3.length = n3 at *
  generalize l4.length = n4 at *
  have e0 : Below w.heap.size w ((w.alloc (.cells #[.int .i64 lo, .int .i64 hi] 37)).alloc (.cells #[.bool bg, .slice a nA ca, .slice b nB cb] 24)) := old_alloc (old_alloc (Below.refl _ _) _) _
  have k0 : ((w.alloc (.cells #[.int .i64 lo, .int .i64 hi] 37)).alloc (.cells #[.bool bg, .slice a nA ca, .slice b nB cb] 24)).cell? ⟨w.heap.size, 0, none⟩ = some (.int .i64 lo) ∧ ((w.alloc (.cells #[.int .i64 lo, .int .i64 hi] 37)).alloc (.cells #[.bool bg, .slice a nA ca, .slice b nB cb] 24)).cell? ⟨w.heap.size, 1, none⟩ = some (.int .i64 hi) ∧ ((w.alloc (.cells #[.int .i64 lo, .int .i64 hi] 37)).alloc (.cells #[.bool bg, .slice a nA ca, .slice b nB cb] 24)).cell? ⟨w.heap.size + 1, 0, none⟩ = some (.bool bg) ∧ ((w.alloc (.cells #[.int .i64 lo, .int .i64 hi] 37)).alloc (.cells #[.bool bg, .slice a nA ca, .slice b nB cb] 24)).cell? ⟨w.heap.size + 1, 1, none⟩ = some (.slice a nA ca) ∧ ((w.alloc (.cells #[.int .i64 lo, .int .i64 hi] 37)).alloc (.cells #[.bool bg, .slice a nA ca, .slice b nB cb] 24)).cell? ⟨w.heap.size + 1, 2, none⟩ = some (.slice b nB cb) := by simp
  go_enter Tryz.func26, Tryz.ntmps26
  obtain ⟨m0, m1, m2, m3, m4⟩ := id k0
  go_wp2_with fail
  refine (PO.out _).mono ?_
  rintro e w1 ⟨rfl, hb1⟩
  have k1 := five_oldH k0 hb1
  have B1 := old_trans e0 hb1
  clear m0 m1 m2 m3 m4 k0 PO
  obtain ⟨m0, m1, m2, m3, m4⟩ := id k1
  go_wp2_with fail
  refine (FO.out _ B1).mono ?_
  rintro e w2 ⟨rfl, hb2⟩
  have k2 := five_oldH k1 hb2
  have hB3 := old_trans B1 hb2
  clear m0 m1 m2 m3 m4 k1 FO e0 B1 hb1 hb2
  obtain ⟨m0, m1, m2, m3, m4⟩ := id k2
  have hk := k2
  go_wp2_with fail
  refine (TP.out _).mono ?_
  rintro e W3 ⟨rfl, rfl⟩
  go_wp2_with fail
  clear TP m0 m1 m2 m3 m4 k2
  have hB3d := hB3.drew
  refine wp_region_held_drew (S := fun w' => w'.cell? ⟨w.heap.size, 0, none⟩ = some (.int .i64 lo) ∧ w'.cell? ⟨w.heap.size, 1, none⟩ = some (.int .i64 hi) ∧ w'.cell? ⟨w.heap.size + 1, 0, none⟩ = some (.bool bg) ∧ w'.cell? ⟨w.heap.size + 1, 1, none⟩ = some (.slice a nA ca) ∧ w'.cell? ⟨w.heap.size + 1, 2, none⟩ = some (.slice b nB cb)) rfl hk ?_
  intro hS
  refine wpAnyH_take (i := 0) (v := ?_) rfl (by kernel_rfl) (by kernel_rfl) (by kernel_rfl) (fun _ _ _ h => h) (Or.inl ⟨by kernel_rfl, ?_⟩) hS ?_
  rotate_left
  · intro w' hS'; obtain ⟨s0, s1, s2, s3, s4⟩ := hS'; go_simp <;> with_reducible rfl
  refine wpAnyH_take (i := 1) (v := ?_) rfl (by kernel_rfl) (by kernel_rfl) (by kernel_rfl) (fun _ _ _ h => h) (Or.inl ⟨by kernel_rfl, ?_⟩) hS ?_
  rotate_left
  · intro w' hS'; obtain ⟨s0, s1, s2, s3, s4⟩ := hS'; go_simp <;> with_reducible rfl
  refine wpAnyH_take (i := 2) (v := ?_) rfl (by kernel_rfl) (by kernel_rfl) (by kernel_rfl) (fun _ _ _ h => h) (Or.inl ⟨by kernel_rfl, ?_⟩) hS ?_
  rotate_left
  · intro w' hS'; obtain ⟨s0, s1, s2, s3, s4⟩ := hS'; go_simp <;> with_reducible rfl
  refine wpAnyH_take (i := 3) (v := ?_) rfl (by kernel_rfl) (by kernel_rfl) (by kernel_rfl) (fun _ _ _ h => h) (Or.inl ⟨by kernel_rfl, ?_⟩) hS ?_
  rotate_left
  · intro w' hS'; obtain ⟨s0, s1, s2, s3, s4⟩ := hS'; go_simp <;> with_reducible rfl
  refine wpAnyH_take (i := 4) (v := ?_) rfl (by kernel_rfl) (by kernel_rfl) (by kernel_rfl) (fun _ _ _ h => h) (Or.inl ⟨by kernel_rfl, ?_⟩) hS ?_
  rotate_left
  · intro w' hS'; obtain ⟨s0, s1, s2, s3, s4⟩ := hS'; go_simp <;> with_reducible rfl
  refine wpAnyH_take (i := 5) (v := ?_) rfl (by kernel_rfl) (by kernel_rfl) (by kernel_rfl) (fun _ _ _ h => h) (Or.inl ⟨by kernel_rfl, ?_⟩) hS ?_
  rotate_left
  · intro w' hS'; obtain ⟨s0, s1, s2, s3, s4⟩ := hS'; go_simp <;> with_reducible rfl
  refine wpAnyH_take (i := 6) (v := undef) rfl (by kernel_rfl) (by kernel_rfl) (by kernel_rfl) (fun _ _ _ h => h) (Or.inr ⟨by kernel_rfl, rfl⟩) hS ?_
  refine wpAnyH_take (i := 7) (v := undef) rfl (by kernel_rfl) (by kernel_rfl) (by kernel_rfl) (fun _ _ _ h => h) (Or.inr ⟨by kernel_rfl, rfl⟩) hS ?_
  refine wpAnyH_take (i := 8) (v := undef) rfl (by kernel_rfl) (by kernel_rfl) (by kernel_rfl) (fun _ _ _ h => h) (Or.inr ⟨by kernel_rfl, rfl⟩) hS ?_
  refine wpAnyH_take (i := 9) (v := undef) rfl (by kernel_rfl) (by kernel_rfl) (by kernel_rfl) (fun _ _ _ h => h) (Or.inr ⟨by kernel_rfl, rfl⟩) hS ?_
  refine wpAnyH_take (i := 10) (v := undef) rfl (by kernel_rfl) (by kernel_rfl) (by kernel_rfl) (fun _ _ _ h => h) (Or.inr ⟨by kernel_rfl, rfl⟩) hS ?_
  refine wpAnyH_take (i := 11) (v := undef) rfl (by kernel_rfl) (by kernel_rfl) (by kernel_rfl) (fun _ _ _ h => h) (Or.inr ⟨by kernel_rfl, rfl⟩) hS ?_
  refine wpAnyH_take (i := 12) (v := undef) rfl (by kernel_rfl) (by kernel_rfl) (by kernel_rfl) (fun _ _ _ h => h) (Or.inr ⟨by kernel_rfl, rfl⟩) hS ?_
  refine wpAnyH_take (i := 13) (v := undef) rfl (by kernel_rfl) (by kernel_rfl) (by kernel_rfl) (fun _ _ _ h => h) (Or.inr ⟨by kernel_rfl, rfl⟩) hS ?_
  refine wpAnyH_take (i := 14) (v := ?_) rfl (by kernel_rfl) (by kernel_rfl) (by kernel_rfl) (fun _ _ _ h => h) (Or.inl ⟨by kernel_rfl, ?_⟩) hS ?_
  rotate_left
  · intro w' hS'; obtain ⟨s0, s1, s2, s3, s4⟩ := hS'; go_simp <;> with_reducible rfl
  refine wpAnyH_take (i := 15) (v := ?_) rfl (by kernel_rfl) (by kernel_rfl) (by kernel_rfl) (fun _ _ _ h => h) (Or.inl ⟨by kernel_rfl, ?_⟩) hS ?_
  rotate_left
  · intro w' hS'; obtain ⟨s0, s1, s2, s3, s4⟩ := hS'; go_simp <;> with_reducible rfl
  refine wpAnyH_take (i := 16) (v := ?_) rfl (by kernel_rfl) (by kernel_rfl) (by kernel_rfl) (fun _ _ _ h => h) (Or.inl ⟨by kernel_rfl, ?_⟩) hS ?_
  rotate_left
  · intro w' hS'; obtain ⟨s0, s1, s2, s3, s4⟩ := hS'; go_simp <;> with_reducible rfl
  refine wpAnyH_take (i := 17) (v := ?_) rfl (by kernel_rfl) (by kernel_rfl) (by kernel_rfl) (fun _ _ _ h => h) (Or.inl ⟨by kernel_rfl, ?_⟩) hS ?_
  rotate_left
  · intro w' hS'; obtain ⟨s0, s1, s2, s3, s4⟩ := hS'; go_simp <;> with_reducible rfl
  refine wpAnyH_take (i := 18) (v := ?_) rfl (by kernel_rfl) (by kernel_rfl) (by kernel_rfl) (fun _ _ _ h => h) (Or.inl ⟨by kernel_rfl, ?_⟩) hS ?_
  rotate_left
  · intro w' hS'; obtain ⟨s0, s1, s2, s3, s4⟩ := hS'; go_simp <;> with_reducible rfl
  refine wpAnyH_take (i := 19) (v := ?_) rfl (by kernel_rfl) (by kernel_rfl) (by kernel_rfl) (fun _ _ _ h => h) (Or.inl ⟨by kernel_rfl, ?_⟩) hS ?_
  rotate_left
  · intro w' hS'; obtain ⟨s0, s1, s2, s3, s4⟩ := hS'; go_simp <;> with_reducible rfl
  refine wpAnyH_take (i := 20) (v := ?_) rfl (by kernel_rfl) (by kernel_rfl) (by kernel_rfl) (fun _ _ _ h => h) (Or.inl ⟨by kernel_rfl, ?_⟩) hS ?_
  rotate_left
  · intro w' hS'; obtain ⟨s0, s1, s2, s3, s4⟩ := hS'; go_simp <;> with_reducible rfl
  refine wpAnyH_take (i := 21) (v := ?_) rfl (by kernel_rfl) (by kernel_rfl) (by kernel_rfl) (fun _ _ _ h => h) (Or.inl ⟨by kernel_rfl, ?_⟩) hS ?_
  rotate_left
  · intro w' hS'; obtain ⟨s0, s1, s2, s3, s4⟩ := hS'; go_simp <;> with_reducible rfl
  refine wpAnyH_take (i := 23) (v := ?_) rfl (by kernel_rfl) (by kernel_rfl) (by kernel_rfl) (fun _ _ _ h => h) (Or.inl ⟨by kernel_rfl, ?_⟩) hS ?_
  rotate_left
  · intro w' hS'; obtain ⟨s0, s1, s2, s3, s4⟩ := hS'; go_simp <;> with_reducible rfl
  refine wpAnyH_take (i := 24) (v := ?_) rfl (by kernel_rfl) (by kernel_rfl) (by kernel_rfl) (fun _ _ _ h => h) (Or.inl ⟨by kernel_rfl, ?_⟩) hS ?_
  rotate_left
  · intro w' hS'; obtain ⟨s0, s1, s2, s3, s4⟩ := hS'; go_simp <;> with_reducible rfl
  refine wpAnyH_take (i := 25) (v := ?_) rfl (by kernel_rfl) (by kernel_rfl) (by kernel_rfl) (fun _ _ _ h => h) (Or.inl ⟨by kernel_rfl, ?_⟩) hS ?_
  rotate_left
  · intro w' hS'; obtain ⟨s0, s1, s2, s3, s4⟩ := hS'; go_simp <;> with_reducible rfl
  refine wpAnyH_ready (rs := [22]) (by kernel_rfl) (by simp) ?_
  refine AllReadyH.cons rfl (fun K hK => ?_) AllReadyH.nil
  go_simp
  refine (FR.out _ hS).mono ?_
  rintro e w7 ⟨⟨rfl, hb7⟩, hc7⟩
  refine hK.out _ _ hc7 ?_
  intro hS7
  clear hK K
  have B7 := old_trans hB3d hb7
  refine wpAnyH_ready (rs := [26]) (by kernel_rfl) (by simp) ?_
  refine AllReadyH.cons rfl (fun K hK => ?_) AllReadyH.nil
  go_simp
  refine (OH.out _ hS7).mono ?_
  rintro e w8 ⟨⟨⟨av2, cv2, bv2, dv2, rfl, iw1, iw2⟩, hb8⟩, hc8⟩
  refine hK.out _ _ hc8 ?_
  intro hS8
  clear hK K
  have B8 := old_trans B7 hb8
  refine wpAnyH_ready (rs := [27]) (by kernel_rfl) (by simp) ?_
  refine AllReadyH.cons rfl (fun K hK => ?_) AllReadyH.nil
  go_simp
  refine (CH.out _ _ _ _ _ hS8 iw1 iw2 B8).mono ?_
  rintro e w9 ⟨⟨rfl, hb9⟩, hc9⟩
  refine hK.out _ _ hc9 ?_
  intro hS9
  clear hK K
  have B9 := old_trans B8 hb9
  refine wpAnyH_take (i := 28) (v := ?_) rfl (by kernel_rfl) (by kernel_rfl) (by kernel_rfl) (fun _ _ _ h => h) (Or.inl ⟨by kernel_rfl, ?_⟩) hS9 ?_
  rotate_left
  · intro w' hS'; obtain ⟨s0, s1, s2, s3, s4⟩ := hS'; go_simp <;> with_reducible rfl
  refine wpAnyH_take (i := 29) (v := ?_) rfl (by kernel_rfl) (by kernel_rfl) (by kernel_rfl) (fun _ _ _ h => h) (Or.inl ⟨by kernel_rfl, ?_⟩) hS9 ?_
  rotate_left
  · intro w' hS'; obtain ⟨s0, s1, s2, s3, s4⟩ := hS'; go_simp <;> with_reducible rfl
  refine wpAnyH_take (i := 30) (v := ?_) rfl (by kernel_rfl) (by kernel_rfl) (by kernel_rfl) (fun _ _ _ h => h) (Or.inl ⟨by kernel_rfl, ?_⟩) hS9 ?_
  rotate_left
  · intro w' hS'; obtain ⟨s0, s1, s2, s3, s4⟩ := hS'; go_simp <;> with_reducible rfl
  refine wpAnyH_take (i := 31) (v := ?_) rfl (by kernel_rfl) (by kernel_rfl) (by kernel_rfl) (fun _ _ _ h => h) (Or.inl ⟨by kernel_rfl, ?_⟩) hS9 ?_
  rotate_left
  · intro w' hS'; obtain ⟨s0, s1, s2, s3, s4⟩ := hS'; go_simp <;> with_reducible rfl
  refine wpAnyH_done (by kernel_rfl) ?_ _
  go_wp2
  go_ret
  exact ⟨by kernel_rfl, B9⟩
end Go.Proofs.YtpjababikpakoaaGreatDoor

/- PairHas of the specification: the walk, case 3. Conditions: contracts of what it calls. Nothing that was there is written. -/
namespace Go.Proofs.YtpjababikpakoaaGreatDoor
open Go.RowKit
set_option linter.unusedVariables false
set_option maxRecDepth 100000

set_option maxRecDepth 100000 in
set_option maxHeartbeats 16000000 in
theorem PHk2 {wd T lo hi : Int} {bg : Bool} {a b : Option Addr} {ca cb nA nB : Nat} {l1 l2 l3 l4 : List Int} {c1 c2 : Int} {sl sh : Bool} {w : World} (H : PHc wd T lo hi bg a b ca cb nA nB l1 l2 l3 l4 c1 c2 sl sh w) (hT : 0 ≤ T ∧ T ≤ 9218868437227405312) (el : lo = -T) (eh : hi ≠ T) (d2 : decide (c2 ≤ 0) = false) :
    Calls Tryz.prog 26 #[.int .i64 wd, .agg #[.int .i64 lo, .int .i64 hi], .agg #[.bool bg, .slice a nA ca, .slice b nB cb]] w fun e w' => e = .returned (.bool false) ∧ Below w.heap.size w w' := by
  obtain ⟨T0, T1⟩ := hT
  have hw : IntKind.i64.wrap (-T) = -T := by rw [IntKind.wrap_i64]; omega
  have PO := hd H.po
  have FO := hd H.fo
  have TP := hd H.tp
  have FR := hd (fun w' (hS : w'.cell? ⟨w.heap.size, 0, none⟩ = some (.int .i64 lo) ∧ w'.cell? ⟨w.heap.size, 1, none⟩ = some (.int .i64 hi) ∧ w'.cell? ⟨w.heap.size + 1, 0, none⟩ = some (.bool bg) ∧ w'.cell? ⟨w.heap.size + 1, 1, none⟩ = some (.slice a nA ca) ∧ w'.cell? ⟨w.heap.size + 1, 2, none⟩ = some (.slice b nB cb)) => (H.fr w').mono (fun e w'' (k : _ ∧ _) => (⟨k, five_oldH hS k.2⟩ : (_ ∧ _) ∧ (w''.cell? ⟨w.heap.size, 0, none⟩ = some (.int .i64 lo) ∧ w''.cell? ⟨w.heap.size, 1, none⟩ = some (.int .i64 hi) ∧ w''.cell? ⟨w.heap.size + 1, 0, none⟩ = some (.bool bg) ∧ w''.cell? ⟨w.heap.size + 1, 1, none⟩ = some (.slice a nA ca) ∧ w''.cell? ⟨w.heap.size + 1, 2, none⟩ = some (.slice b nB cb)))))
  have gl : (lo == -T) = true := by rw [el]; exact beq_self_eq_true _
  have OH := hd (fun w' (hS : w'.cell? ⟨w.heap.size, 0, none⟩ = some (.int .i64 lo) ∧ w'.cell? ⟨w.heap.size, 1, none⟩ = some (.int .i64 hi) ∧ w'.cell? ⟨w.heap.size + 1, 0, none⟩ = some (.bool bg) ∧ w'.cell? ⟨w.heap.size + 1, 1, none⟩ = some (.slice a nA ca) ∧ w'.cell? ⟨w.heap.size + 1, 2, none⟩ = some (.slice b nB cb)) => (H.oh eh w').mono (fun e w'' (k : _ ∧ _) => (⟨k, five_oldH hS k.2⟩ : (_ ∧ _) ∧ (w''.cell? ⟨w.heap.size, 0, none⟩ = some (.int .i64 lo) ∧ w''.cell? ⟨w.heap.size, 1, none⟩ = some (.int .i64 hi) ∧ w''.cell? ⟨w.heap.size + 1, 0, none⟩ = some (.bool bg) ∧ w''.cell? ⟨w.heap.size + 1, 1, none⟩ = some (.slice a nA ca) ∧ w''.cell? ⟨w.heap.size + 1, 2, none⟩ = some (.slice b nB cb)))))
  have CH := hd (fun av cv bv dv w' (hS : w'.cell? ⟨w.heap.size, 0, none⟩ = some (.int .i64 lo) ∧ w'.cell? ⟨w.heap.size, 1, none⟩ = some (.int .i64 hi) ∧ w'.cell? ⟨w.heap.size + 1, 0, none⟩ = some (.bool bg) ∧ w'.cell? ⟨w.heap.size + 1, 1, none⟩ = some (.slice a nA ca) ∧ w'.cell? ⟨w.heap.size + 1, 2, none⟩ = some (.slice b nB cb)) i1 i2 (h : Below w.heap.size w w') => (H.ch eh av cv bv dv w' i1 i2 h).mono (fun e w'' (k : _ ∧ _) => (⟨k, five_oldH hS k.2⟩ : (_ ∧ _) ∧ (w''.cell? ⟨w.heap.size, 0, none⟩ = some (.int .i64 lo) ∧ w''.cell? ⟨w.heap.size, 1, none⟩ = some (.int .i64 hi) ∧ w''.cell? ⟨w.heap.size + 1, 0, none⟩ = some (.bool bg) ∧ w''.cell? ⟨w.heap.size + 1, 1, none⟩ = some (.slice a nA ca) ∧ w''.cell? ⟨w.heap.size + 1, 2, none⟩ = some (.slice b nB cb)))))
  have gh : (hi == T) = false := beq_eq_false_iff_ne.2 eh
  clear H el eh
  generalize l1.length = n1 at *
  generalize l2.length = n2 at *
  generalize l3.length = n3 at *
  generalize l4.length = n4 at *
  have e0 : Below w.heap.size w ((w.alloc (.cells #[.int .i64 lo, .int .i64 hi] 37)).alloc (.cells #[.bool bg, .slice a nA ca, .slice b nB cb] 24)) := old_alloc (old_alloc (Below.refl _ _) _) _
  have k0 : ((w.alloc (.cells #[.int .i64 lo, .int .i64 hi] 37)).alloc (.cells #[.bool bg, .slice a nA ca, .slice b nB cb] 24)).cell? ⟨w.heap.size, 0, none⟩ = some (.int .i64 lo) ∧ ((w.alloc (.cells #[.int .i64 lo, .int .i64 hi] 37)).alloc (.cells #[.bool bg, .slice a nA ca, .slice b nB cb] 24)).cell? ⟨w.heap.size, 1, none⟩ = some (.int .i64 hi) ∧ ((w.alloc (.cells #[.int .i64 lo, .int .i64 hi] 37)).alloc (.cells #[.bool bg, .slice a nA ca, .slice b nB cb] 24)).cell? ⟨w.heap.size + 1, 0, none⟩ = some (.bool bg) ∧ ((w.alloc (.cells #[.int .i64 lo, .int .i64 hi] 37)).alloc (.cells #[.bool bg, .slice a nA ca, .slice b nB cb] 24)).cell? ⟨w.heap.size + 1, 1, none⟩ = some (.slice a nA ca) ∧ ((w.alloc (.cells #[.int .i64 lo, .int .i64 hi] 37)).alloc (.cells #[.bool bg, .slice a nA ca, .slice b nB cb] 24)).cell? ⟨w.heap.size + 1, 2, none⟩ = some (.slice b nB cb) := by simp
  go_enter Tryz.func26, Tryz.ntmps26
  obtain ⟨m0, m1, m2, m3, m4⟩ := id k0
  go_wp2_with fail
  refine (PO.out _).mono ?_
  rintro e w1 ⟨rfl, hb1⟩
  have k1 := five_oldH k0 hb1
  have B1 := old_trans e0 hb1
  clear m0 m1 m2 m3 m4 k0 PO
  obtain ⟨m0, m1, m2, m3, m4⟩ := id k1
  go_wp2_with fail
  refine (FO.out _ B1).mono ?_
  rintro e w2 ⟨rfl, hb2⟩
  have k2 := five_oldH k1 hb2
  have hB3 := old_trans B1 hb2
  clear m0 m1 m2 m3 m4 k1 FO e0 B1 hb1 hb2
  obtain ⟨m0, m1, m2, m3, m4⟩ := id k2
  have hk := k2
  go_wp2_with fail
  refine (TP.out _).mono ?_
  rintro e W3 ⟨rfl, rfl⟩
  go_wp2_with fail
  clear TP m0 m1 m2 m3 m4 k2
  have hB3d := hB3.drew
  refine wp_region_held_drew (S := fun w' => w'.cell? ⟨w.heap.size, 0, none⟩ = some (.int .i64 lo) ∧ w'.cell? ⟨w.heap.size, 1, none⟩ = some (.int .i64 hi) ∧ w'.cell? ⟨w.heap.size + 1, 0, none⟩ = some (.bool bg) ∧ w'.cell? ⟨w.heap.size + 1, 1, none⟩ = some (.slice a nA ca) ∧ w'.cell? ⟨w.heap.size + 1, 2, none⟩ = some (.slice b nB cb)) rfl hk ?_
  intro hS
  refine wpAnyH_take (i := 0) (v := ?_) rfl (by kernel_rfl) (by kernel_rfl) (by kernel_rfl) (fun _ _ _ h => h) (Or.inl ⟨by kernel_rfl, ?_⟩) hS ?_
  rotate_left
  · intro w' hS'; obtain ⟨s0, s1, s2, s3, s4⟩ := hS'; go_simp <;> with_reducible rfl
  refine wpAnyH_take (i := 1) (v := ?_) rfl (by kernel_rfl) (by kernel_rfl) (by kernel_rfl) (fun _ _ _ h => h) (Or.inl ⟨by kernel_rfl, ?_⟩) hS ?_
  rotate_left
  · intro w' hS'; obtain ⟨s0, s1, s2, s3, s4⟩ := hS'; go_simp <;> with_reducible rfl
  refine wpAnyH_take (i := 2) (v := ?_) rfl (by kernel_rfl) (by kernel_rfl) (by kernel_rfl) (fun _ _ _ h => h) (Or.inl ⟨by kernel_rfl, ?_⟩) hS ?_
  rotate_left
  · intro w' hS'; obtain ⟨s0, s1, s2, s3, s4⟩ := hS'; go_simp <;> with_reducible rfl
  refine wpAnyH_take (i := 3) (v := ?_) rfl (by kernel_rfl) (by kernel_rfl) (by kernel_rfl) (fun _ _ _ h => h) (Or.inl ⟨by kernel_rfl, ?_⟩) hS ?_
  rotate_left
  · intro w' hS'; obtain ⟨s0, s1, s2, s3, s4⟩ := hS'; go_simp <;> with_reducible rfl
  refine wpAnyH_take (i := 4) (v := ?_) rfl (by kernel_rfl) (by kernel_rfl) (by kernel_rfl) (fun _ _ _ h => h) (Or.inl ⟨by kernel_rfl, ?_⟩) hS ?_
  rotate_left
  · intro w' hS'; obtain ⟨s0, s1, s2, s3, s4⟩ := hS'; go_simp <;> with_reducible rfl
  refine wpAnyH_take (i := 5) (v := ?_) rfl (by kernel_rfl) (by kernel_rfl) (by kernel_rfl) (fun _ _ _ h => h) (Or.inl ⟨by kernel_rfl, ?_⟩) hS ?_
  rotate_left
  · intro w' hS'; obtain ⟨s0, s1, s2, s3, s4⟩ := hS'; go_simp <;> with_reducible rfl
  refine wpAnyH_take (i := 6) (v := undef) rfl (by kernel_rfl) (by kernel_rfl) (by kernel_rfl) (fun _ _ _ h => h) (Or.inr ⟨by kernel_rfl, rfl⟩) hS ?_
  refine wpAnyH_take (i := 7) (v := undef) rfl (by kernel_rfl) (by kernel_rfl) (by kernel_rfl) (fun _ _ _ h => h) (Or.inr ⟨by kernel_rfl, rfl⟩) hS ?_
  refine wpAnyH_take (i := 8) (v := undef) rfl (by kernel_rfl) (by kernel_rfl) (by kernel_rfl) (fun _ _ _ h => h) (Or.inr ⟨by kernel_rfl, rfl⟩) hS ?_
  refine wpAnyH_take (i := 9) (v := undef) rfl (by kernel_rfl) (by kernel_rfl) (by kernel_rfl) (fun _ _ _ h => h) (Or.inr ⟨by kernel_rfl, rfl⟩) hS ?_
  refine wpAnyH_take (i := 10) (v := undef) rfl (by kernel_rfl) (by kernel_rfl) (by kernel_rfl) (fun _ _ _ h => h) (Or.inr ⟨by kernel_rfl, rfl⟩) hS ?_
  refine wpAnyH_take (i := 11) (v := undef) rfl (by kernel_rfl) (by kernel_rfl) (by kernel_rfl) (fun _ _ _ h => h) (Or.inr ⟨by kernel_rfl, rfl⟩) hS ?_
  refine wpAnyH_take (i := 12) (v := undef) rfl (by kernel_rfl) (by kernel_rfl) (by kernel_rfl) (fun _ _ _ h => h) (Or.inr ⟨by kernel_rfl, rfl⟩) hS ?_
  refine wpAnyH_take (i := 13) (v := undef) rfl (by kernel_rfl) (by kernel_rfl) (by kernel_rfl) (fun _ _ _ h => h) (Or.inr ⟨by kernel_rfl, rfl⟩) hS ?_
  refine wpAnyH_take (i := 14) (v := ?_) rfl (by kernel_rfl) (by kernel_rfl) (by kernel_rfl) (fun _ _ _ h => h) (Or.inl ⟨by kernel_rfl, ?_⟩) hS ?_
  rotate_left
  · intro w' hS'; obtain ⟨s0, s1, s2, s3, s4⟩ := hS'; go_simp <;> with_reducible rfl
  refine wpAnyH_take (i := 15) (v := ?_) rfl (by kernel_rfl) (by kernel_rfl) (by kernel_rfl) (fun _ _ _ h => h) (Or.inl ⟨by kernel_rfl, ?_⟩) hS ?_
  rotate_left
  · intro w' hS'; obtain ⟨s0, s1, s2, s3, s4⟩ := hS'; go_simp <;> with_reducible rfl
  refine wpAnyH_take (i := 16) (v := ?_) rfl (by kernel_rfl) (by kernel_rfl) (by kernel_rfl) (fun _ _ _ h => h) (Or.inl ⟨by kernel_rfl, ?_⟩) hS ?_
  rotate_left
  · intro w' hS'; obtain ⟨s0, s1, s2, s3, s4⟩ := hS'; go_simp <;> with_reducible rfl
  refine wpAnyH_take (i := 17) (v := ?_) rfl (by kernel_rfl) (by kernel_rfl) (by kernel_rfl) (fun _ _ _ h => h) (Or.inl ⟨by kernel_rfl, ?_⟩) hS ?_
  rotate_left
  · intro w' hS'; obtain ⟨s0, s1, s2, s3, s4⟩ := hS'; go_simp <;> with_reducible rfl
  refine wpAnyH_take (i := 18) (v := ?_) rfl (by kernel_rfl) (by kernel_rfl) (by kernel_rfl) (fun _ _ _ h => h) (Or.inl ⟨by kernel_rfl, ?_⟩) hS ?_
  rotate_left
  · intro w' hS'; obtain ⟨s0, s1, s2, s3, s4⟩ := hS'; go_simp <;> with_reducible rfl
  refine wpAnyH_take (i := 19) (v := ?_) rfl (by kernel_rfl) (by kernel_rfl) (by kernel_rfl) (fun _ _ _ h => h) (Or.inl ⟨by kernel_rfl, ?_⟩) hS ?_
  rotate_left
  · intro w' hS'; obtain ⟨s0, s1, s2, s3, s4⟩ := hS'; go_simp <;> with_reducible rfl
  refine wpAnyH_take (i := 20) (v := ?_) rfl (by kernel_rfl) (by kernel_rfl) (by kernel_rfl) (fun _ _ _ h => h) (Or.inl ⟨by kernel_rfl, ?_⟩) hS ?_
  rotate_left
  · intro w' hS'; obtain ⟨s0, s1, s2, s3, s4⟩ := hS'; go_simp <;> with_reducible rfl
  refine wpAnyH_take (i := 21) (v := ?_) rfl (by kernel_rfl) (by kernel_rfl) (by kernel_rfl) (fun _ _ _ h => h) (Or.inl ⟨by kernel_rfl, ?_⟩) hS ?_
  rotate_left
  · intro w' hS'; obtain ⟨s0, s1, s2, s3, s4⟩ := hS'; go_simp <;> with_reducible rfl
  refine wpAnyH_take (i := 23) (v := ?_) rfl (by kernel_rfl) (by kernel_rfl) (by kernel_rfl) (fun _ _ _ h => h) (Or.inl ⟨by kernel_rfl, ?_⟩) hS ?_
  rotate_left
  · intro w' hS'; obtain ⟨s0, s1, s2, s3, s4⟩ := hS'; go_simp <;> with_reducible rfl
  refine wpAnyH_take (i := 24) (v := ?_) rfl (by kernel_rfl) (by kernel_rfl) (by kernel_rfl) (fun _ _ _ h => h) (Or.inl ⟨by kernel_rfl, ?_⟩) hS ?_
  rotate_left
  · intro w' hS'; obtain ⟨s0, s1, s2, s3, s4⟩ := hS'; go_simp <;> with_reducible rfl
  refine wpAnyH_take (i := 25) (v := ?_) rfl (by kernel_rfl) (by kernel_rfl) (by kernel_rfl) (fun _ _ _ h => h) (Or.inl ⟨by kernel_rfl, ?_⟩) hS ?_
  rotate_left
  · intro w' hS'; obtain ⟨s0, s1, s2, s3, s4⟩ := hS'; go_simp <;> with_reducible rfl
  refine wpAnyH_ready (rs := [22]) (by kernel_rfl) (by simp) ?_
  refine AllReadyH.cons rfl (fun K hK => ?_) AllReadyH.nil
  go_simp
  refine (FR.out _ hS).mono ?_
  rintro e w7 ⟨⟨rfl, hb7⟩, hc7⟩
  refine hK.out _ _ hc7 ?_
  intro hS7
  clear hK K
  have B7 := old_trans hB3d hb7
  refine wpAnyH_ready (rs := [26]) (by kernel_rfl) (by simp) ?_
  refine AllReadyH.cons rfl (fun K hK => ?_) AllReadyH.nil
  go_simp
  refine (OH.out _ hS7).mono ?_
  rintro e w8 ⟨⟨⟨av2, cv2, bv2, dv2, rfl, iw1, iw2⟩, hb8⟩, hc8⟩
  refine hK.out _ _ hc8 ?_
  intro hS8
  clear hK K
  have B8 := old_trans B7 hb8
  refine wpAnyH_ready (rs := [27]) (by kernel_rfl) (by simp) ?_
  refine AllReadyH.cons rfl (fun K hK => ?_) AllReadyH.nil
  go_simp
  refine (CH.out _ _ _ _ _ hS8 iw1 iw2 B8).mono ?_
  rintro e w9 ⟨⟨rfl, hb9⟩, hc9⟩
  refine hK.out _ _ hc9 ?_
  intro hS9
  clear hK K
  have B9 := old_trans B8 hb9
  refine wpAnyH_take (i := 28) (v := ?_) rfl (by kernel_rfl) (by kernel_rfl) (by kernel_rfl) (fun _ _ _ h => h) (Or.inl ⟨by kernel_rfl, ?_⟩) hS9 ?_
  rotate_left
  · intro w' hS'; obtain ⟨s0, s1, s2, s3, s4⟩ := hS'; go_simp <;> with_reducible rfl
  refine wpAnyH_take (i := 29) (v := ?_) rfl (by kernel_rfl) (by kernel_rfl) (by kernel_rfl) (fun _ _ _ h => h) (Or.inl ⟨by kernel_rfl, ?_⟩) hS9 ?_
  rotate_left
  · intro w' hS'; obtain ⟨s0, s1, s2, s3, s4⟩ := hS'; go_simp <;> with_reducible rfl
  refine wpAnyH_take (i := 30) (v := ?_) rfl (by kernel_rfl) (by kernel_rfl) (by kernel_rfl) (fun _ _ _ h => h) (Or.inl ⟨by kernel_rfl, ?_⟩) hS9 ?_
  rotate_left
  · intro w' hS'; obtain ⟨s0, s1, s2, s3, s4⟩ := hS'; go_simp <;> with_reducible rfl
  refine wpAnyH_take (i := 31) (v := ?_) rfl (by kernel_rfl) (by kernel_rfl) (by kernel_rfl) (fun _ _ _ h => h) (Or.inl ⟨by kernel_rfl, ?_⟩) hS9 ?_
  rotate_left
  · intro w' hS'; obtain ⟨s0, s1, s2, s3, s4⟩ := hS'; go_simp <;> with_reducible rfl
  refine wpAnyH_done (by kernel_rfl) ?_ _
  go_wp2
  go_ret
  exact ⟨by kernel_rfl, B9⟩
end Go.Proofs.YtpjababikpakoaaGreatDoor

/- PairHas of the specification: the walk, case 4. Conditions: contracts of what it calls. Nothing that was there is written. -/
namespace Go.Proofs.YtpjababikpakoaaGreatDoor
open Go.RowKit
set_option linter.unusedVariables false
set_option maxRecDepth 100000

set_option maxRecDepth 100000 in
set_option maxHeartbeats 16000000 in
theorem PHk3 {wd T lo hi : Int} {bg : Bool} {a b : Option Addr} {ca cb nA nB : Nat} {l1 l2 l3 l4 : List Int} {c1 c2 : Int} {sl sh : Bool} {w : World} (H : PHc wd T lo hi bg a b ca cb nA nB l1 l2 l3 l4 c1 c2 sl sh w) (hT : 0 ≤ T ∧ T ≤ 9218868437227405312) (el : lo ≠ -T) (d1 : decide (c1 ≤ 0) = true) (eh : hi = T) :
    Calls Tryz.prog 26 #[.int .i64 wd, .agg #[.int .i64 lo, .int .i64 hi], .agg #[.bool bg, .slice a nA ca, .slice b nB cb]] w fun e w' => e = .returned (.bool true) ∧ Below w.heap.size w w' := by
  obtain ⟨T0, T1⟩ := hT
  have hw : IntKind.i64.wrap (-T) = -T := by rw [IntKind.wrap_i64]; omega
  have PO := hd H.po
  have FO := hd H.fo
  have TP := hd H.tp
  have FR := hd (fun w' (hS : w'.cell? ⟨w.heap.size, 0, none⟩ = some (.int .i64 lo) ∧ w'.cell? ⟨w.heap.size, 1, none⟩ = some (.int .i64 hi) ∧ w'.cell? ⟨w.heap.size + 1, 0, none⟩ = some (.bool bg) ∧ w'.cell? ⟨w.heap.size + 1, 1, none⟩ = some (.slice a nA ca) ∧ w'.cell? ⟨w.heap.size + 1, 2, none⟩ = some (.slice b nB cb)) => (H.fr w').mono (fun e w'' (k : _ ∧ _) => (⟨k, five_oldH hS k.2⟩ : (_ ∧ _) ∧ (w''.cell? ⟨w.heap.size, 0, none⟩ = some (.int .i64 lo) ∧ w''.cell? ⟨w.heap.size, 1, none⟩ = some (.int .i64 hi) ∧ w''.cell? ⟨w.heap.size + 1, 0, none⟩ = some (.bool bg) ∧ w''.cell? ⟨w.heap.size + 1, 1, none⟩ = some (.slice a nA ca) ∧ w''.cell? ⟨w.heap.size + 1, 2, none⟩ = some (.slice b nB cb)))))
  have OL := hd (fun w' (hS : w'.cell? ⟨w.heap.size, 0, none⟩ = some (.int .i64 lo) ∧ w'.cell? ⟨w.heap.size, 1, none⟩ = some (.int .i64 hi) ∧ w'.cell? ⟨w.heap.size + 1, 0, none⟩ = some (.bool bg) ∧ w'.cell? ⟨w.heap.size + 1, 1, none⟩ = some (.slice a nA ca) ∧ w'.cell? ⟨w.heap.size + 1, 2, none⟩ = some (.slice b nB cb)) => (H.ol el w').mono (fun e w'' (k : _ ∧ _) => (⟨k, five_oldH hS k.2⟩ : (_ ∧ _) ∧ (w''.cell? ⟨w.heap.size, 0, none⟩ = some (.int .i64 lo) ∧ w''.cell? ⟨w.heap.size, 1, none⟩ = some (.int .i64 hi) ∧ w''.cell? ⟨w.heap.size + 1, 0, none⟩ = some (.bool bg) ∧ w''.cell? ⟨w.heap.size + 1, 1, none⟩ = some (.slice a nA ca) ∧ w''.cell? ⟨w.heap.size + 1, 2, none⟩ = some (.slice b nB cb)))))
  have CL := hd (fun av cv bv dv w' (hS : w'.cell? ⟨w.heap.size, 0, none⟩ = some (.int .i64 lo) ∧ w'.cell? ⟨w.heap.size, 1, none⟩ = some (.int .i64 hi) ∧ w'.cell? ⟨w.heap.size + 1, 0, none⟩ = some (.bool bg) ∧ w'.cell? ⟨w.heap.size + 1, 1, none⟩ = some (.slice a nA ca) ∧ w'.cell? ⟨w.heap.size + 1, 2, none⟩ = some (.slice b nB cb)) i1 i2 (h : Below w.heap.size w w') => (H.cl el av cv bv dv w' i1 i2 h).mono (fun e w'' (k : _ ∧ _) => (⟨k, five_oldH hS k.2⟩ : (_ ∧ _) ∧ (w''.cell? ⟨w.heap.size, 0, none⟩ = some (.int .i64 lo) ∧ w''.cell? ⟨w.heap.size, 1, none⟩ = some (.int .i64 hi) ∧ w''.cell? ⟨w.heap.size + 1, 0, none⟩ = some (.bool bg) ∧ w''.cell? ⟨w.heap.size + 1, 1, none⟩ = some (.slice a nA ca) ∧ w''.cell? ⟨w.heap.size + 1, 2, none⟩ = some (.slice b nB cb)))))
  have gl : (lo == -T) = false := beq_eq_false_iff_ne.2 el
  have gh : (hi == T) = true := by rw [eh]; exact beq_self_eq_true _
  clear H el eh
  generalize l1.length = n1 at *
  generalize l2.length = n2 at *
  generalize l3.length = n3 at *
  generalize l4.length = n4 at *
  have e0 : Below w.heap.size w ((w.alloc (.cells #[.int .i64 lo, .int .i64 hi] 37)).alloc (.cells #[.bool bg, .slice a nA ca, .slice b nB cb] 24)) := old_alloc (old_alloc (Below.refl _ _) _) _
  have k0 : ((w.alloc (.cells #[.int .i64 lo, .int .i64 hi] 37)).alloc (.cells #[.bool bg, .slice a nA ca, .slice b nB cb] 24)).cell? ⟨w.heap.size, 0, none⟩ = some (.int .i64 lo) ∧ ((w.alloc (.cells #[.int .i64 lo, .int .i64 hi] 37)).alloc (.cells #[.bool bg, .slice a nA ca, .slice b nB cb] 24)).cell? ⟨w.heap.size, 1, none⟩ = some (.int .i64 hi) ∧ ((w.alloc (.cells #[.int .i64 lo, .int .i64 hi] 37)).alloc (.cells #[.bool bg, .slice a nA ca, .slice b nB cb] 24)).cell? ⟨w.heap.size + 1, 0, none⟩ = some (.bool bg) ∧ ((w.alloc (.cells #[.int .i64 lo, .int .i64 hi] 37)).alloc (.cells #[.bool bg, .slice a nA ca, .slice b nB cb] 24)).cell? ⟨w.heap.size + 1, 1, none⟩ = some (.slice a nA ca) ∧ ((w.alloc (.cells #[.int .i64 lo, .int .i64 hi] 37)).alloc (.cells #[.bool bg, .slice a nA ca, .slice b nB cb] 24)).cell? ⟨w.heap.size + 1, 2, none⟩ = some (.slice b nB cb) := by simp
  go_enter Tryz.func26, Tryz.ntmps26
  obtain ⟨m0, m1, m2, m3, m4⟩ := id k0
  go_wp2_with fail
  refine (PO.out _).mono ?_
  rintro e w1 ⟨rfl, hb1⟩
  have k1 := five_oldH k0 hb1
  have B1 := old_trans e0 hb1
  clear m0 m1 m2 m3 m4 k0 PO
  obtain ⟨m0, m1, m2, m3, m4⟩ := id k1
  go_wp2_with fail
  refine (FO.out _ B1).mono ?_
  rintro e w2 ⟨rfl, hb2⟩
  have k2 := five_oldH k1 hb2
  have hB3 := old_trans B1 hb2
  clear m0 m1 m2 m3 m4 k1 FO e0 B1 hb1 hb2
  obtain ⟨m0, m1, m2, m3, m4⟩ := id k2
  have hk := k2
  go_wp2_with fail
  refine (TP.out _).mono ?_
  rintro e W3 ⟨rfl, rfl⟩
  go_wp2_with fail
  clear TP m0 m1 m2 m3 m4 k2
  have hB3d := hB3.drew
  refine wp_region_held_drew (S := fun w' => w'.cell? ⟨w.heap.size, 0, none⟩ = some (.int .i64 lo) ∧ w'.cell? ⟨w.heap.size, 1, none⟩ = some (.int .i64 hi) ∧ w'.cell? ⟨w.heap.size + 1, 0, none⟩ = some (.bool bg) ∧ w'.cell? ⟨w.heap.size + 1, 1, none⟩ = some (.slice a nA ca) ∧ w'.cell? ⟨w.heap.size + 1, 2, none⟩ = some (.slice b nB cb)) rfl hk ?_
  intro hS
  refine wpAnyH_take (i := 0) (v := ?_) rfl (by kernel_rfl) (by kernel_rfl) (by kernel_rfl) (fun _ _ _ h => h) (Or.inl ⟨by kernel_rfl, ?_⟩) hS ?_
  rotate_left
  · intro w' hS'; obtain ⟨s0, s1, s2, s3, s4⟩ := hS'; go_simp <;> with_reducible rfl
  refine wpAnyH_take (i := 1) (v := ?_) rfl (by kernel_rfl) (by kernel_rfl) (by kernel_rfl) (fun _ _ _ h => h) (Or.inl ⟨by kernel_rfl, ?_⟩) hS ?_
  rotate_left
  · intro w' hS'; obtain ⟨s0, s1, s2, s3, s4⟩ := hS'; go_simp <;> with_reducible rfl
  refine wpAnyH_take (i := 2) (v := ?_) rfl (by kernel_rfl) (by kernel_rfl) (by kernel_rfl) (fun _ _ _ h => h) (Or.inl ⟨by kernel_rfl, ?_⟩) hS ?_
  rotate_left
  · intro w' hS'; obtain ⟨s0, s1, s2, s3, s4⟩ := hS'; go_simp <;> with_reducible rfl
  refine wpAnyH_take (i := 3) (v := ?_) rfl (by kernel_rfl) (by kernel_rfl) (by kernel_rfl) (fun _ _ _ h => h) (Or.inl ⟨by kernel_rfl, ?_⟩) hS ?_
  rotate_left
  · intro w' hS'; obtain ⟨s0, s1, s2, s3, s4⟩ := hS'; go_simp <;> with_reducible rfl
  refine wpAnyH_take (i := 4) (v := ?_) rfl (by kernel_rfl) (by kernel_rfl) (by kernel_rfl) (fun _ _ _ h => h) (Or.inl ⟨by kernel_rfl, ?_⟩) hS ?_
  rotate_left
  · intro w' hS'; obtain ⟨s0, s1, s2, s3, s4⟩ := hS'; go_simp <;> with_reducible rfl
  refine wpAnyH_take (i := 5) (v := ?_) rfl (by kernel_rfl) (by kernel_rfl) (by kernel_rfl) (fun _ _ _ h => h) (Or.inl ⟨by kernel_rfl, ?_⟩) hS ?_
  rotate_left
  · intro w' hS'; obtain ⟨s0, s1, s2, s3, s4⟩ := hS'; go_simp <;> with_reducible rfl
  refine wpAnyH_take (i := 6) (v := ?_) rfl (by kernel_rfl) (by kernel_rfl) (by kernel_rfl) (fun _ _ _ h => h) (Or.inl ⟨by kernel_rfl, ?_⟩) hS ?_
  rotate_left
  · intro w' hS'; obtain ⟨s0, s1, s2, s3, s4⟩ := hS'; go_simp <;> with_reducible rfl
  refine wpAnyH_take (i := 7) (v := ?_) rfl (by kernel_rfl) (by kernel_rfl) (by kernel_rfl) (fun _ _ _ h => h) (Or.inl ⟨by kernel_rfl, ?_⟩) hS ?_
  rotate_left
  · intro w' hS'; obtain ⟨s0, s1, s2, s3, s4⟩ := hS'; go_simp <;> with_reducible rfl
  refine wpAnyH_take (i := 8) (v := ?_) rfl (by kernel_rfl) (by kernel_rfl) (by kernel_rfl) (fun _ _ _ h => h) (Or.inl ⟨by kernel_rfl, ?_⟩) hS ?_
  rotate_left
  · intro w' hS'; obtain ⟨s0, s1, s2, s3, s4⟩ := hS'; go_simp <;> with_reducible rfl
  refine wpAnyH_take (i := 10) (v := ?_) rfl (by kernel_rfl) (by kernel_rfl) (by kernel_rfl) (fun _ _ _ h => h) (Or.inl ⟨by kernel_rfl, ?_⟩) hS ?_
  rotate_left
  · intro w' hS'; obtain ⟨s0, s1, s2, s3, s4⟩ := hS'; go_simp <;> with_reducible rfl
  refine wpAnyH_ready (rs := [9]) (by kernel_rfl) (by simp) ?_
  refine AllReadyH.cons rfl (fun K hK => ?_) AllReadyH.nil
  go_simp
  refine (OL.out _ hS).mono ?_
  rintro e w4 ⟨⟨⟨av, cv, bv, dv, rfl, iv1, iv2⟩, hb4⟩, hc4⟩
  refine hK.out _ _ hc4 ?_
  intro hS4
  clear hK K
  have B4 := old_trans hB3d hb4
  refine wpAnyH_ready (rs := [11]) (by kernel_rfl) (by simp) ?_
  refine AllReadyH.cons rfl (fun K hK => ?_) AllReadyH.nil
  go_simp
  refine (FR.out _ hS4).mono ?_
  rintro e w5 ⟨⟨rfl, hb5⟩, hc5⟩
  refine hK.out _ _ hc5 ?_
  intro hS5
  clear hK K
  have B5 := old_trans B4 hb5
  refine wpAnyH_ready (rs := [12]) (by kernel_rfl) (by simp) ?_
  refine AllReadyH.cons rfl (fun K hK => ?_) AllReadyH.nil
  go_simp
  refine (CL.out _ _ _ _ _ hS5 (iv1.old hb5) (iv2.old hb5) B5).mono ?_
  rintro e w6 ⟨⟨rfl, hb6⟩, hc6⟩
  refine hK.out _ _ hc6 ?_
  intro hS6
  clear hK K
  have B6 := old_trans B5 hb6
  clear iv1 iv2 hb4 hb5 hb6 B4 B5
  refine wpAnyH_take (i := 13) (v := ?_) rfl (by kernel_rfl) (by kernel_rfl) (by kernel_rfl) (fun _ _ _ h => h) (Or.inl ⟨by kernel_rfl, ?_⟩) hS6 ?_
  rotate_left
  · intro w' hS'; obtain ⟨s0, s1, s2, s3, s4⟩ := hS'; go_simp <;> with_reducible rfl
  refine wpAnyH_take (i := 14) (v := ?_) rfl (by kernel_rfl) (by kernel_rfl) (by kernel_rfl) (fun _ _ _ h => h) (Or.inl ⟨by kernel_rfl, ?_⟩) hS6 ?_
  rotate_left
  · intro w' hS'; obtain ⟨s0, s1, s2, s3, s4⟩ := hS'; go_simp <;> with_reducible rfl
  refine wpAnyH_take (i := 15) (v := ?_) rfl (by kernel_rfl) (by kernel_rfl) (by kernel_rfl) (fun _ _ _ h => h) (Or.inl ⟨by kernel_rfl, ?_⟩) hS6 ?_
  rotate_left
  · intro w' hS'; obtain ⟨s0, s1, s2, s3, s4⟩ := hS'; go_simp <;> with_reducible rfl
  refine wpAnyH_take (i := 16) (v := ?_) rfl (by kernel_rfl) (by kernel_rfl) (by kernel_rfl) (fun _ _ _ h => h) (Or.inl ⟨by kernel_rfl, ?_⟩) hS6 ?_
  rotate_left
  · intro w' hS'; obtain ⟨s0, s1, s2, s3, s4⟩ := hS'; go_simp <;> with_reducible rfl
  refine wpAnyH_take (i := 17) (v := ?_) rfl (by kernel_rfl) (by kernel_rfl) (by kernel_rfl) (fun _ _ _ h => h) (Or.inl ⟨by kernel_rfl, ?_⟩) hS6 ?_
  rotate_left
  · intro w' hS'; obtain ⟨s0, s1, s2, s3, s4⟩ := hS'; go_simp <;> with_reducible rfl
  refine wpAnyH_take (i := 18) (v := ?_) rfl (by kernel_rfl) (by kernel_rfl) (by kernel_rfl) (fun _ _ _ h => h) (Or.inl ⟨by kernel_rfl, ?_⟩) hS6 ?_
  rotate_left
  · intro w' hS'; obtain ⟨s0, s1, s2, s3, s4⟩ := hS'; go_simp <;> with_reducible rfl
  refine wpAnyH_take (i := 19) (v := ?_) rfl (by kernel_rfl) (by kernel_rfl) (by kernel_rfl) (fun _ _ _ h => h) (Or.inl ⟨by kernel_rfl, ?_⟩) hS6 ?_
  rotate_left
  · intro w' hS'; obtain ⟨s0, s1, s2, s3, s4⟩ := hS'; go_simp <;> with_reducible rfl
  refine wpAnyH_take (i := 20) (v := ?_) rfl (by kernel_rfl) (by kernel_rfl) (by kernel_rfl) (fun _ _ _ h => h) (Or.inl ⟨by kernel_rfl, ?_⟩) hS6 ?_
  rotate_left
  · intro w' hS'; obtain ⟨s0, s1, s2, s3, s4⟩ := hS'; go_simp <;> with_reducible rfl
  refine wpAnyH_take (i := 21) (v := undef) rfl (by kernel_rfl) (by kernel_rfl) (by kernel_rfl) (fun _ _ _ h => h) (Or.inr ⟨by kernel_rfl, rfl⟩) hS6 ?_
  refine wpAnyH_take (i := 22) (v := undef) rfl (by kernel_rfl) (by kernel_rfl) (by kernel_rfl) (fun _ _ _ h => h) (Or.inr ⟨by kernel_rfl, rfl⟩) hS6 ?_
  refine wpAnyH_take (i := 23) (v := undef) rfl (by kernel_rfl) (by kernel_rfl) (by kernel_rfl) (fun _ _ _ h => h) (Or.inr ⟨by kernel_rfl, rfl⟩) hS6 ?_
  refine wpAnyH_take (i := 24) (v := undef) rfl (by kernel_rfl) (by kernel_rfl) (by kernel_rfl) (fun _ _ _ h => h) (Or.inr ⟨by kernel_rfl, rfl⟩) hS6 ?_
  refine wpAnyH_take (i := 25) (v := undef) rfl (by kernel_rfl) (by kernel_rfl) (by kernel_rfl) (fun _ _ _ h => h) (Or.inr ⟨by kernel_rfl, rfl⟩) hS6 ?_
  refine wpAnyH_take (i := 26) (v := undef) rfl (by kernel_rfl) (by kernel_rfl) (by kernel_rfl) (fun _ _ _ h => h) (Or.inr ⟨by kernel_rfl, rfl⟩) hS6 ?_
  refine wpAnyH_take (i := 27) (v := undef) rfl (by kernel_rfl) (by kernel_rfl) (by kernel_rfl) (fun _ _ _ h => h) (Or.inr ⟨by kernel_rfl, rfl⟩) hS6 ?_
  refine wpAnyH_take (i := 28) (v := undef) rfl (by kernel_rfl) (by kernel_rfl) (by kernel_rfl) (fun _ _ _ h => h) (Or.inr ⟨by kernel_rfl, rfl⟩) hS6 ?_
  refine wpAnyH_take (i := 29) (v := ?_) rfl (by kernel_rfl) (by kernel_rfl) (by kernel_rfl) (fun _ _ _ h => h) (Or.inl ⟨by kernel_rfl, ?_⟩) hS6 ?_
  rotate_left
  · intro w' hS'; obtain ⟨s0, s1, s2, s3, s4⟩ := hS'; go_simp <;> with_reducible rfl
  refine wpAnyH_take (i := 30) (v := ?_) rfl (by kernel_rfl) (by kernel_rfl) (by kernel_rfl) (fun _ _ _ h => h) (Or.inl ⟨by kernel_rfl, ?_⟩) hS6 ?_
  rotate_left
  · intro w' hS'; obtain ⟨s0, s1, s2, s3, s4⟩ := hS'; go_simp <;> with_reducible rfl
  refine wpAnyH_take (i := 31) (v := ?_) rfl (by kernel_rfl) (by kernel_rfl) (by kernel_rfl) (fun _ _ _ h => h) (Or.inl ⟨by kernel_rfl, ?_⟩) hS6 ?_
  rotate_left
  · intro w' hS'; obtain ⟨s0, s1, s2, s3, s4⟩ := hS'; go_simp <;> with_reducible rfl
  refine wpAnyH_done (by kernel_rfl) ?_ _
  go_wp2
  go_ret
  exact ⟨by kernel_rfl, B6⟩
end Go.Proofs.YtpjababikpakoaaGreatDoor

/- PairHas of the specification: the walk, case 5. Conditions: contracts of what it calls. Nothing that was there is written. -/
namespace Go.Proofs.YtpjababikpakoaaGreatDoor
open Go.RowKit
set_option linter.unusedVariables false
set_option maxRecDepth 100000

set_option maxRecDepth 100000 in
set_option maxHeartbeats 16000000 in
theorem PHk4 {wd T lo hi : Int} {bg : Bool} {a b : Option Addr} {ca cb nA nB : Nat} {l1 l2 l3 l4 : List Int} {c1 c2 : Int} {sl sh : Bool} {w : World} (H : PHc wd T lo hi bg a b ca cb nA nB l1 l2 l3 l4 c1 c2 sl sh w) (hT : 0 ≤ T ∧ T ≤ 9218868437227405312) (el : lo ≠ -T) (d1 : decide (c1 ≤ 0) = true) (eh : hi ≠ T) (d2 : decide (c2 ≤ 0) = true) :
    Calls Tryz.prog 26 #[.int .i64 wd, .agg #[.int .i64 lo, .int .i64 hi], .agg #[.bool bg, .slice a nA ca, .slice b nB cb]] w fun e w' => e = .returned (.bool true) ∧ Below w.heap.size w w' := by
  obtain ⟨T0, T1⟩ := hT
  have hw : IntKind.i64.wrap (-T) = -T := by rw [IntKind.wrap_i64]; omega
  have PO := hd H.po
  have FO := hd H.fo
  have TP := hd H.tp
  have FR := hd (fun w' (hS : w'.cell? ⟨w.heap.size, 0, none⟩ = some (.int .i64 lo) ∧ w'.cell? ⟨w.heap.size, 1, none⟩ = some (.int .i64 hi) ∧ w'.cell? ⟨w.heap.size + 1, 0, none⟩ = some (.bool bg) ∧ w'.cell? ⟨w.heap.size + 1, 1, none⟩ = some (.slice a nA ca) ∧ w'.cell? ⟨w.heap.size + 1, 2, none⟩ = some (.slice b nB cb)) => (H.fr w').mono (fun e w'' (k : _ ∧ _) => (⟨k, five_oldH hS k.2⟩ : (_ ∧ _) ∧ (w''.cell? ⟨w.heap.size, 0, none⟩ = some (.int .i64 lo) ∧ w''.cell? ⟨w.heap.size, 1, none⟩ = some (.int .i64 hi) ∧ w''.cell? ⟨w.heap.size + 1, 0, none⟩ = some (.bool bg) ∧ w''.cell? ⟨w.heap.size + 1, 1, none⟩ = some (.slice a nA ca) ∧ w''.cell? ⟨w.heap.size + 1, 2, none⟩ = some (.slice b nB cb)))))
  have OL := hd (fun w' (hS : w'.cell? ⟨w.heap.size, 0, none⟩ = some (.int .i64 lo) ∧ w'.cell? ⟨w.heap.size, 1, none⟩ = some (.int .i64 hi) ∧ w'.cell? ⟨w.heap.size + 1, 0, none⟩ = some (.bool bg) ∧ w'.cell? ⟨w.heap.size + 1, 1, none⟩ = some (.slice a nA ca) ∧ w'.cell? ⟨w.heap.size + 1, 2, none⟩ = some (.slice b nB cb)) => (H.ol el w').mono (fun e w'' (k : _ ∧ _) => (⟨k, five_oldH hS k.2⟩ : (_ ∧ _) ∧ (w''.cell? ⟨w.heap.size, 0, none⟩ = some (.int .i64 lo) ∧ w''.cell? ⟨w.heap.size, 1, none⟩ = some (.int .i64 hi) ∧ w''.cell? ⟨w.heap.size + 1, 0, none⟩ = some (.bool bg) ∧ w''.cell? ⟨w.heap.size + 1, 1, none⟩ = some (.slice a nA ca) ∧ w''.cell? ⟨w.heap.size + 1, 2, none⟩ = some (.slice b nB cb)))))
  have CL := hd (fun av cv bv dv w' (hS : w'.cell? ⟨w.heap.size, 0, none⟩ = some (.int .i64 lo) ∧ w'.cell? ⟨w.heap.size, 1, none⟩ = some (.int .i64 hi) ∧ w'.cell? ⟨w.heap.size + 1, 0, none⟩ = some (.bool bg) ∧ w'.cell? ⟨w.heap.size + 1, 1, none⟩ = some (.slice a nA ca) ∧ w'.cell? ⟨w.heap.size + 1, 2, none⟩ = some (.slice b nB cb)) i1 i2 (h : Below w.heap.size w w') => (H.cl el av cv bv dv w' i1 i2 h).mono (fun e w'' (k : _ ∧ _) => (⟨k, five_oldH hS k.2⟩ : (_ ∧ _) ∧ (w''.cell? ⟨w.heap.size, 0, none⟩ = some (.int .i64 lo) ∧ w''.cell? ⟨w.heap.size, 1, none⟩ = some (.int .i64 hi) ∧ w''.cell? ⟨w.heap.size + 1, 0, none⟩ = some (.bool bg) ∧ w''.cell? ⟨w.heap.size + 1, 1, none⟩ = some (.slice a nA ca) ∧ w''.cell? ⟨w.heap.size + 1, 2, none⟩ = some (.slice b nB cb)))))
  have gl : (lo == -T) = false := beq_eq_false_iff_ne.2 el
  have OH := hd (fun w' (hS : w'.cell? ⟨w.heap.size, 0, none⟩ = some (.int .i64 lo) ∧ w'.cell? ⟨w.heap.size, 1, none⟩ = some (.int .i64 hi) ∧ w'.cell? ⟨w.heap.size + 1, 0, none⟩ = some (.bool bg) ∧ w'.cell? ⟨w.heap.size + 1, 1, none⟩ = some (.slice a nA ca) ∧ w'.cell? ⟨w.heap.size + 1, 2, none⟩ = some (.slice b nB cb)) => (H.oh eh w').mono (fun e w'' (k : _ ∧ _) => (⟨k, five_oldH hS k.2⟩ : (_ ∧ _) ∧ (w''.cell? ⟨w.heap.size, 0, none⟩ = some (.int .i64 lo) ∧ w''.cell? ⟨w.heap.size, 1, none⟩ = some (.int .i64 hi) ∧ w''.cell? ⟨w.heap.size + 1, 0, none⟩ = some (.bool bg) ∧ w''.cell? ⟨w.heap.size + 1, 1, none⟩ = some (.slice a nA ca) ∧ w''.cell? ⟨w.heap.size + 1, 2, none⟩ = some (.slice b nB cb)))))
  have CH := hd (fun av cv bv dv w' (hS : w'.cell? ⟨w.heap.size, 0, none⟩ = some (.int .i64 lo) ∧ w'.cell? ⟨w.heap.size, 1, none⟩ = some (.int .i64 hi) ∧ w'.cell? ⟨w.heap.size + 1, 0, none⟩ = some (.bool bg) ∧ w'.cell? ⟨w.heap.size + 1, 1, none⟩ = some (.slice a nA ca) ∧ w'.cell? ⟨w.heap.size + 1, 2, none⟩ = some (.slice b nB cb)) i1 i2 (h : Below w.heap.size w w') => (H.ch eh av cv bv dv w' i1 i2 h).mono (fun e w'' (k : _ ∧ _) => (⟨k, five_oldH hS k.2⟩ : (_ ∧ _) ∧ (w''.cell? ⟨w.heap.size, 0, none⟩ = some (.int .i64 lo) ∧ w''.cell? ⟨w.heap.size, 1, none⟩ = some (.int .i64 hi) ∧ w''.cell? ⟨w.heap.size + 1, 0, none⟩ = some (.bool bg) ∧ w''.cell? ⟨w.heap.size + 1, 1, none⟩ = some (.slice a nA ca) ∧ w''.cell? ⟨w.heap.size + 1, 2, none⟩ = some (.slice b nB cb)))))
  have gh : (hi == T) = false := beq_eq_false_iff_ne.2 eh
  clear H el eh
  generalize l1.length = n1 at *
  generalize l2.length = n2 at *
  generalize l3.length = n3 at *
  generalize l4.length = n4 at *
  have e0 : Below w.heap.size w ((w.alloc (.cells #[.int .i64 lo, .int .i64 hi] 37)).alloc (.cells #[.bool bg, .slice a nA ca, .slice b nB cb] 24)) := old_alloc (old_alloc (Below.refl _ _) _) _
  have k0 : ((w.alloc (.cells #[.int .i64 lo, .int .i64 hi] 37)).alloc (.cells #[.bool bg, .slice a nA ca, .slice b nB cb] 24)).cell? ⟨w.heap.size, 0, none⟩ = some (.int .i64 lo) ∧ ((w.alloc (.cells #[.int .i64 lo, .int .i64 hi] 37)).alloc (.cells #[.bool bg, .slice a nA ca, .slice b nB cb] 24)).cell? ⟨w.heap.size, 1, none⟩ = some (.int .i64 hi) ∧ ((w.alloc (.cells #[.int .i64 lo, .int .i64 hi] 37)).alloc (.cells #[.bool bg, .slice a nA ca, .slice b nB cb] 24)).cell? ⟨w.heap.size + 1, 0, none⟩ = some (.bool bg) ∧ ((w.alloc (.cells #[.int .i64 lo, .int .i64 hi] 37)).alloc (.cells #[.bool bg, .slice a nA ca, .slice b nB cb] 24)).cell? ⟨w.heap.size + 1, 1, none⟩ = some (.slice a nA ca) ∧ ((w.alloc (.cells #[.int .i64 lo, .int .i64 hi] 37)).alloc (.cells #[.bool bg, .slice a nA ca, .slice b nB cb] 24)).cell? ⟨w.heap.size + 1, 2, none⟩ = some (.slice b nB cb) := by simp
  go_enter Tryz.func26, Tryz.ntmps26
  obtain ⟨m0, m1, m2, m3, m4⟩ := id k0
  go_wp2_with fail
  refine (PO.out _).mono ?_
  rintro e w1 ⟨rfl, hb1⟩
  have k1 := five_oldH k0 hb1
  have B1 := old_trans e0 hb1
  clear m0 m1 m2 m3 m4 k0 PO
  obtain ⟨m0, m1, m2, m3, m4⟩ := id k1
  go_wp2_with fail
  refine (FO.out _ B1).mono ?_
  rintro e w2 ⟨rfl, hb2⟩
  have k2 := five_oldH k1 hb2
  have hB3 := old_trans B1 hb2
  clear m0 m1 m2 m3 m4 k1 FO e0 B1 hb1 hb2
  obtain ⟨m0, m1, m2, m3, m4⟩ := id k2
  have hk := k2
  go_wp2_with fail
  refine (TP.out _).mono ?_
  rintro e W3 ⟨rfl, rfl⟩
  go_wp2_with fail
  clear TP m0 m1 m2 m3 m4 k2
  have hB3d := hB3.drew
  refine wp_region_held_drew (S := fun w' => w'.cell? ⟨w.heap.size, 0, none⟩ = some (.int .i64 lo) ∧ w'.cell? ⟨w.heap.size, 1, none⟩ = some (.int .i64 hi) ∧ w'.cell? ⟨w.heap.size + 1, 0, none⟩ = some (.bool bg) ∧ w'.cell? ⟨w.heap.size + 1, 1, none⟩ = some (.slice a nA ca) ∧ w'.cell? ⟨w.heap.size + 1, 2, none⟩ = some (.slice b nB cb)) rfl hk ?_
  intro hS
  refine wpAnyH_take (i := 0) (v := ?_) rfl (by kernel_rfl) (by kernel_rfl) (by kernel_rfl) (fun _ _ _ h => h) (Or.inl ⟨by kernel_rfl, ?_⟩) hS ?_
  rotate_left
  · intro w' hS'; obtain ⟨s0, s1, s2, s3, s4⟩ := hS'; go_simp <;> with_reducible rfl
  refine wpAnyH_take (i := 1) (v := ?_) rfl (by kernel_rfl) (by kernel_rfl) (by kernel_rfl) (fun _ _ _ h => h) (Or.inl ⟨by kernel_rfl, ?_⟩) hS ?_
  rotate_left
  · intro w' hS'; obtain ⟨s0, s1, s2, s3, s4⟩ := hS'; go_simp <;> with_reducible rfl
  refine wpAnyH_take (i := 2) (v := ?_) rfl (by kernel_rfl) (by kernel_rfl) (by kernel_rfl) (fun _ _ _ h => h) (Or.inl ⟨by kernel_rfl, ?_⟩) hS ?_
  rotate_left
  · intro w' hS'; obtain ⟨s0, s1, s2, s3, s4⟩ := hS'; go_simp <;> with_reducible rfl
  refine wpAnyH_take (i := 3) (v := ?_) rfl (by kernel_rfl) (by kernel_rfl) (by kernel_rfl) (fun _ _ _ h => h) (Or.inl ⟨by kernel_rfl, ?_⟩) hS ?_
  rotate_left
  · intro w' hS'; obtain ⟨s0, s1, s2, s3, s4⟩ := hS'; go_simp <;> with_reducible rfl
  refine wpAnyH_take (i := 4) (v := ?_) rfl (by kernel_rfl) (by kernel_rfl) (by kernel_rfl) (fun _ _ _ h => h) (Or.inl ⟨by kernel_rfl, ?_⟩) hS ?_
  rotate_left
  · intro w' hS'; obtain ⟨s0, s1, s2, s3, s4⟩ := hS'; go_simp <;> with_reducible rfl
  refine wpAnyH_take (i := 5) (v := ?_) rfl (by kernel_rfl) (by kernel_rfl) (by kernel_rfl) (fun _ _ _ h => h) (Or.inl ⟨by kernel_rfl, ?_⟩) hS ?_
  rotate_left
  · intro w' hS'; obtain ⟨s0, s1, s2, s3, s4⟩ := hS'; go_simp <;> with_reducible rfl
  refine wpAnyH_take (i := 6) (v := ?_) rfl (by kernel_rfl) (by kernel_rfl) (by kernel_rfl) (fun _ _ _ h => h) (Or.inl ⟨by kernel_rfl, ?_⟩) hS ?_
  rotate_left
  · intro w' hS'; obtain ⟨s0, s1, s2, s3, s4⟩ := hS'; go_simp <;> with_reducible rfl
  refine wpAnyH_take (i := 7) (v := ?_) rfl (by kernel_rfl) (by kernel_rfl) (by kernel_rfl) (fun _ _ _ h => h) (Or.inl ⟨by kernel_rfl, ?_⟩) hS ?_
  rotate_left
  · intro w' hS'; obtain ⟨s0, s1, s2, s3, s4⟩ := hS'; go_simp <;> with_reducible rfl
  refine wpAnyH_take (i := 8) (v := ?_) rfl (by kernel_rfl) (by kernel_rfl) (by kernel_rfl) (fun _ _ _ h => h) (Or.inl ⟨by kernel_rfl, ?_⟩) hS ?_
  rotate_left
  · intro w' hS'; obtain ⟨s0, s1, s2, s3, s4⟩ := hS'; go_simp <;> with_reducible rfl
  refine wpAnyH_take (i := 10) (v := ?_) rfl (by kernel_rfl) (by kernel_rfl) (by kernel_rfl) (fun _ _ _ h => h) (Or.inl ⟨by kernel_rfl, ?_⟩) hS ?_
  rotate_left
  · intro w' hS'; obtain ⟨s0, s1, s2, s3, s4⟩ := hS'; go_simp <;> with_reducible rfl
  refine wpAnyH_ready (rs := [9]) (by kernel_rfl) (by simp) ?_
  refine AllReadyH.cons rfl (fun K hK => ?_) AllReadyH.nil
  go_simp
  refine (OL.out _ hS).mono ?_
  rintro e w4 ⟨⟨⟨av, cv, bv, dv, rfl, iv1, iv2⟩, hb4⟩, hc4⟩
  refine hK.out _ _ hc4 ?_
  intro hS4
  clear hK K
  have B4 := old_trans hB3d hb4
  refine wpAnyH_ready (rs := [11]) (by kernel_rfl) (by simp) ?_
  refine AllReadyH.cons rfl (fun K hK => ?_) AllReadyH.nil
  go_simp
  refine (FR.out _ hS4).mono ?_
  rintro e w5 ⟨⟨rfl, hb5⟩, hc5⟩
  refine hK.out _ _ hc5 ?_
  intro hS5
  clear hK K
  have B5 := old_trans B4 hb5
  refine wpAnyH_ready (rs := [12]) (by kernel_rfl) (by simp) ?_
  refine AllReadyH.cons rfl (fun K hK => ?_) AllReadyH.nil
  go_simp
  refine (CL.out _ _ _ _ _ hS5 (iv1.old hb5) (iv2.old hb5) B5).mono ?_
  rintro e w6 ⟨⟨rfl, hb6⟩, hc6⟩
  refine hK.out _ _ hc6 ?_
  intro hS6
  clear hK K
  have B6 := old_trans B5 hb6
  clear iv1 iv2 hb4 hb5 hb6 B4 B5
  refine wpAnyH_take (i := 13) (v := ?_) rfl (by kernel_rfl) (by kernel_rfl) (by kernel_rfl) (fun _ _ _ h => h) (Or.inl ⟨by kernel_rfl, ?_⟩) hS6 ?_
  rotate_left
  · intro w' hS'; obtain ⟨s0, s1, s2, s3, s4⟩ := hS'; go_simp <;> with_reducible rfl
  refine wpAnyH_take (i := 14) (v := ?_) rfl (by kernel_rfl) (by kernel_rfl) (by kernel_rfl) (fun _ _ _ h => h) (Or.inl ⟨by kernel_rfl, ?_⟩) hS6 ?_
  rotate_left
  · intro w' hS'; obtain ⟨s0, s1, s2, s3, s4⟩ := hS'; go_simp <;> with_reducible rfl
  refine wpAnyH_take (i := 15) (v := ?_) rfl (by kernel_rfl) (by kernel_rfl) (by kernel_rfl) (fun _ _ _ h => h) (Or.inl ⟨by kernel_rfl, ?_⟩) hS6 ?_
  rotate_left
  · intro w' hS'; obtain ⟨s0, s1, s2, s3, s4⟩ := hS'; go_simp <;> with_reducible rfl
  refine wpAnyH_take (i := 16) (v := ?_) rfl (by kernel_rfl) (by kernel_rfl) (by kernel_rfl) (fun _ _ _ h => h) (Or.inl ⟨by kernel_rfl, ?_⟩) hS6 ?_
  rotate_left
  · intro w' hS'; obtain ⟨s0, s1, s2, s3, s4⟩ := hS'; go_simp <;> with_reducible rfl
  refine wpAnyH_take (i := 17) (v := ?_) rfl (by kernel_rfl) (by kernel_rfl) (by kernel_rfl) (fun _ _ _ h => h) (Or.inl ⟨by kernel_rfl, ?_⟩) hS6 ?_
  rotate_left
  · intro w' hS'; obtain ⟨s0, s1, s2, s3, s4⟩ := hS'; go_simp <;> with_reducible rfl
  refine wpAnyH_take (i := 18) (v := ?_) rfl (by kernel_rfl) (by kernel_rfl) (by kernel_rfl) (fun _ _ _ h => h) (Or.inl ⟨by kernel_rfl, ?_⟩) hS6 ?_
  rotate_left
  · intro w' hS'; obtain ⟨s0, s1, s2, s3, s4⟩ := hS'; go_simp <;> with_reducible rfl
  refine wpAnyH_take (i := 19) (v := ?_) rfl (by kernel_rfl) (by kernel_rfl) (by kernel_rfl) (fun _ _ _ h => h) (Or.inl ⟨by kernel_rfl, ?_⟩) hS6 ?_
  rotate_left
  · intro w' hS'; obtain ⟨s0, s1, s2, s3, s4⟩ := hS'; go_simp <;> with_reducible rfl
  refine wpAnyH_take (i := 20) (v := ?_) rfl (by kernel_rfl) (by kernel_rfl) (by kernel_rfl) (fun _ _ _ h => h) (Or.inl ⟨by kernel_rfl, ?_⟩) hS6 ?_
  rotate_left
  · intro w' hS'; obtain ⟨s0, s1, s2, s3, s4⟩ := hS'; go_simp <;> with_reducible rfl
  refine wpAnyH_take (i := 21) (v := ?_) rfl (by kernel_rfl) (by kernel_rfl) (by kernel_rfl) (fun _ _ _ h => h) (Or.inl ⟨by kernel_rfl, ?_⟩) hS6 ?_
  rotate_left
  · intro w' hS'; obtain ⟨s0, s1, s2, s3, s4⟩ := hS'; go_simp <;> with_reducible rfl
  refine wpAnyH_take (i := 23) (v := ?_) rfl (by kernel_rfl) (by kernel_rfl) (by kernel_rfl) (fun _ _ _ h => h) (Or.inl ⟨by kernel_rfl, ?_⟩) hS6 ?_
  rotate_left
  · intro w' hS'; obtain ⟨s0, s1, s2, s3, s4⟩ := hS'; go_simp <;> with_reducible rfl
  refine wpAnyH_take (i := 24) (v := ?_) rfl (by kernel_rfl) (by kernel_rfl) (by kernel_rfl) (fun _ _ _ h => h) (Or.inl ⟨by kernel_rfl, ?_⟩) hS6 ?_
  rotate_left
  · intro w' hS'; obtain ⟨s0, s1, s2, s3, s4⟩ := hS'; go_simp <;> with_reducible rfl
  refine wpAnyH_take (i := 25) (v := ?_) rfl (by kernel_rfl) (by kernel_rfl) (by kernel_rfl) (fun _ _ _ h => h) (Or.inl ⟨by kernel_rfl, ?_⟩) hS6 ?_
  rotate_left
  · intro w' hS'; obtain ⟨s0, s1, s2, s3, s4⟩ := hS'; go_simp <;> with_reducible rfl
  refine wpAnyH_ready (rs := [22]) (by kernel_rfl) (by simp) ?_
  refine AllReadyH.cons rfl (fun K hK => ?_) AllReadyH.nil
  go_simp
  refine (FR.out _ hS6).mono ?_
  rintro e w7 ⟨⟨rfl, hb7⟩, hc7⟩
  refine hK.out _ _ hc7 ?_
  intro hS7
  clear hK K
  have B7 := old_trans B6 hb7
  refine wpAnyH_ready (rs := [26]) (by kernel_rfl) (by simp) ?_
  refine AllReadyH.cons rfl (fun K hK => ?_) AllReadyH.nil
  go_simp
  refine (OH.out _ hS7).mono ?_
  rintro e w8 ⟨⟨⟨av2, cv2, bv2, dv2, rfl, iw1, iw2⟩, hb8⟩, hc8⟩
  refine hK.out _ _ hc8 ?_
  intro hS8
  clear hK K
  have B8 := old_trans B7 hb8
  refine wpAnyH_ready (rs := [27]) (by kernel_rfl) (by simp) ?_
  refine AllReadyH.cons rfl (fun K hK => ?_) AllReadyH.nil
  go_simp
  refine (CH.out _ _ _ _ _ hS8 iw1 iw2 B8).mono ?_
  rintro e w9 ⟨⟨rfl, hb9⟩, hc9⟩
  refine hK.out _ _ hc9 ?_
  intro hS9
  clear hK K
  have B9 := old_trans B8 hb9
  refine wpAnyH_take (i := 28) (v := ?_) rfl (by kernel_rfl) (by kernel_rfl) (by kernel_rfl) (fun _ _ _ h => h) (Or.inl ⟨by kernel_rfl, ?_⟩) hS9 ?_
  rotate_left
  · intro w' hS'; obtain ⟨s0, s1, s2, s3, s4⟩ := hS'; go_simp <;> with_reducible rfl
  refine wpAnyH_take (i := 29) (v := ?_) rfl (by kernel_rfl) (by kernel_rfl) (by kernel_rfl) (fun _ _ _ h => h) (Or.inl ⟨by kernel_rfl, ?_⟩) hS9 ?_
  rotate_left
  · intro w' hS'; obtain ⟨s0, s1, s2, s3, s4⟩ := hS'; go_simp <;> with_reducible rfl
  refine wpAnyH_take (i := 30) (v := ?_) rfl (by kernel_rfl) (by kernel_rfl) (by kernel_rfl) (fun _ _ _ h => h) (Or.inl ⟨by kernel_rfl, ?_⟩) hS9 ?_
  rotate_left
  · intro w' hS'; obtain ⟨s0, s1, s2, s3, s4⟩ := hS'; go_simp <;> with_reducible rfl
  refine wpAnyH_take (i := 31) (v := ?_) rfl (by kernel_rfl) (by kernel_rfl) (by kernel_rfl) (fun _ _ _ h => h) (Or.inl ⟨by kernel_rfl, ?_⟩) hS9 ?_
  rotate_left
  · intro w' hS'; obtain ⟨s0, s1, s2, s3, s4⟩ := hS'; go_simp <;> with_reducible rfl
  refine wpAnyH_done (by kernel_rfl) ?_ _
  go_wp2
  go_ret
  exact ⟨by kernel_rfl, B9⟩
end Go.Proofs.YtpjababikpakoaaGreatDoor

/- PairHas of the specification: the walk, case 6. Conditions: contracts of what it calls. Nothing that was there is written. -/
namespace Go.Proofs.YtpjababikpakoaaGreatDoor
open Go.RowKit
set_option linter.unusedVariables false
set_option maxRecDepth 100000

set_option maxRecDepth 100000 in
set_option maxHeartbeats 16000000 in
theorem PHk5 {wd T lo hi : Int} {bg : Bool} {a b : Option Addr} {ca cb nA nB : Nat} {l1 l2 l3 l4 : List Int} {c1 c2 : Int} {sl sh : Bool} {w : World} (H : PHc wd T lo hi bg a b ca cb nA nB l1 l2 l3 l4 c1 c2 sl sh w) (hT : 0 ≤ T ∧ T ≤ 9218868437227405312) (el : lo ≠ -T) (d1 : decide (c1 ≤ 0) = true) (eh : hi ≠ T) (d2 : decide (c2 ≤ 0) = false) :
    Calls Tryz.prog 26 #[.int .i64 wd, .agg #[.int .i64 lo, .int .i64 hi], .agg #[.bool bg, .slice a nA ca, .slice b nB cb]] w fun e w' => e = .returned (.bool false) ∧ Below w.heap.size w w' := by
  obtain ⟨T0, T1⟩ := hT
  have hw : IntKind.i64.wrap (-T) = -T := by rw [IntKind.wrap_i64]; omega
  have PO := hd H.po
  have FO := hd H.fo
  have TP := hd H.tp
  have FR := hd (fun w' (hS : w'.cell? ⟨w.heap.size, 0, none⟩ = some (.int .i64 lo) ∧ w'.cell? ⟨w.heap.size, 1, none⟩ = some (.int .i64 hi) ∧ w'.cell? ⟨w.heap.size + 1, 0, none⟩ = some (.bool bg) ∧ w'.cell? ⟨w.heap.size + 1, 1, none⟩ = some (.slice a nA ca) ∧ w'.cell? ⟨w.heap.size + 1, 2, none⟩ = some (.slice b nB cb)) => (H.fr w').mono (fun e w'' (k : _ ∧ _) => (⟨k, five_oldH hS k.2⟩ : (_ ∧ _) ∧ (w''.cell? ⟨w.heap.size, 0, none⟩ = some (.int .i64 lo) ∧ w''.cell? ⟨w.heap.size, 1, none⟩ = some (.int .i64 hi) ∧ w''.cell? ⟨w.heap.size + 1, 0, none⟩ = some (.bool bg) ∧ w''.cell? ⟨w.heap.size + 1, 1, none⟩ = some (.slice a nA ca) ∧ w''.cell? ⟨w.heap.size + 1, 2, none⟩ = some (.slice b nB cb)))))
  have OL := hd (fun w' (hS : w'.cell? ⟨w.heap.size, 0, none⟩ = some (.int .i64 lo) ∧ w'.cell? ⟨w.heap.size, 1, none⟩ = some (.int .i64 hi) ∧ w'.cell? ⟨w.heap.size + 1, 0, none⟩ = some (.bool bg) ∧ w'.cell? ⟨w.heap.size + 1, 1, none⟩ = some (.slice a nA ca) ∧ w'.cell? ⟨w.heap.size + 1, 2, none⟩ = some (.slice b nB cb)) => (H.ol el w').mono (fun e w'' (k : _ ∧ _) => (⟨k, five_oldH hS k.2⟩ : (_ ∧ _) ∧ (w''.cell? ⟨w.heap.size, 0, none⟩ = some (.int .i64 lo) ∧ w''.cell? ⟨w.heap.size, 1, none⟩ = some (.int .i64 hi) ∧ w''.cell? ⟨w.heap.size + 1, 0, none⟩ = some (.bool bg) ∧ w''.cell? ⟨w.heap.size + 1, 1, none⟩ = some (.slice a nA ca) ∧ w''.cell? ⟨w.heap.size + 1, 2, none⟩ = some (.slice b nB cb)))))
  have CL := hd (fun av cv bv dv w' (hS : w'.cell? ⟨w.heap.size, 0, none⟩ = some (.int .i64 lo) ∧ w'.cell? ⟨w.heap.size, 1, none⟩ = some (.int .i64 hi) ∧ w'.cell? ⟨w.heap.size + 1, 0, none⟩ = some (.bool bg) ∧ w'.cell? ⟨w.heap.size + 1, 1, none⟩ = some (.slice a nA ca) ∧ w'.cell? ⟨w.heap.size + 1, 2, none⟩ = some (.slice b nB cb)) i1 i2 (h : Below w.heap.size w w') => (H.cl el av cv bv dv w' i1 i2 h).mono (fun e w'' (k : _ ∧ _) => (⟨k, five_oldH hS k.2⟩ : (_ ∧ _) ∧ (w''.cell? ⟨w.heap.size, 0, none⟩ = some (.int .i64 lo) ∧ w''.cell? ⟨w.heap.size, 1, none⟩ = some (.int .i64 hi) ∧ w''.cell? ⟨w.heap.size + 1, 0, none⟩ = some (.bool bg) ∧ w''.cell? ⟨w.heap.size + 1, 1, none⟩ = some (.slice a nA ca) ∧ w''.cell? ⟨w.heap.size + 1, 2, none⟩ = some (.slice b nB cb)))))
  have gl : (lo == -T) = false := beq_eq_false_iff_ne.2 el
  have OH := hd (fun w' (hS : w'.cell? ⟨w.heap.size, 0, none⟩ = some (.int .i64 lo) ∧ w'.cell? ⟨w.heap.size, 1, none⟩ = some (.int .i64 hi) ∧ w'.cell? ⟨w.heap.size + 1, 0, none⟩ = some (.bool bg) ∧ w'.cell? ⟨w.heap.size + 1, 1, none⟩ = some (.slice a nA ca) ∧ w'.cell? ⟨w.heap.size + 1, 2, none⟩ = some (.slice b nB cb)) => (H.oh eh w').mono (fun e w'' (k : _ ∧ _) => (⟨k, five_oldH hS k.2⟩ : (_ ∧ _) ∧ (w''.cell? ⟨w.heap.size, 0, none⟩ = some (.int .i64 lo) ∧ w''.cell? ⟨w.heap.size, 1, none⟩ = some (.int .i64 hi) ∧ w''.cell? ⟨w.heap.size + 1, 0, none⟩ = some (.bool bg) ∧ w''.cell? ⟨w.heap.size + 1, 1, none⟩ = some (.slice a nA ca) ∧ w''.cell? ⟨w.heap.size + 1, 2, none⟩ = some (.slice b nB cb)))))
  have CH := hd (fun av cv bv dv w' (hS : w'.cell? ⟨w.heap.size, 0, none⟩ = some (.int .i64 lo) ∧ w'.cell? ⟨w.heap.size, 1, none⟩ = some (.int .i64 hi) ∧ w'.cell? ⟨w.heap.size + 1, 0, none⟩ = some (.bool bg) ∧ w'.cell? ⟨w.heap.size + 1, 1, none⟩ = some (.slice a nA ca) ∧ w'.cell? ⟨w.heap.size + 1, 2, none⟩ = some (.slice b nB cb)) i1 i2 (h : Below w.heap.size w w') => (H.ch eh av cv bv dv w' i1 i2 h).mono (fun e w'' (k : _ ∧ _) => (⟨k, five_oldH hS k.2⟩ : (_ ∧ _) ∧ (w''.cell? ⟨w.heap.size, 0, none⟩ = some (.int .i64 lo) ∧ w''.cell? ⟨w.heap.size, 1, none⟩ = some (.int .i64 hi) ∧ w''.cell? ⟨w.heap.size + 1, 0, none⟩ = some (.bool bg) ∧ w''.cell? ⟨w.heap.size + 1, 1, none⟩ = some (.slice a nA ca) ∧ w''.cell? ⟨w.heap.size + 1, 2, none⟩ = some (.slice b nB cb)))))
  have gh : (hi == T) = false := beq_eq_false_iff_ne.2 eh
  clear H el eh
  generalize l1.length = n1 at *
  generalize l2.length = n2 at *
  generalize l3.length = n3 at *
  generalize l4.length = n4 at *
  have e0 : Below w.heap.size w ((w.alloc (.cells #[.int .i64 lo, .int .i64 hi] 37)).alloc (.cells #[.bool bg, .slice a nA ca, .slice b nB cb] 24)) := old_alloc (old_alloc (Below.refl _ _) _) _
  have k0 : ((w.alloc (.cells #[.int .i64 lo, .int .i64 hi] 37)).alloc (.cells #[.bool bg, .slice a nA ca, .slice b nB cb] 24)).cell? ⟨w.heap.size, 0, none⟩ = some (.int .i64 lo) ∧ ((w.alloc (.cells #[.int .i64 lo, .int .i64 hi] 37)).alloc (.cells #[.bool bg, .slice a nA ca, .slice b nB cb] 24)).cell? ⟨w.heap.size, 1, none⟩ = some (.int .i64 hi) ∧ ((w.alloc (.cells #[.int .i64 lo, .int .i64 hi] 37)).alloc (.cells #[.bool bg, .slice a nA ca, .slice b nB cb] 24)).cell? ⟨w.heap.size + 1, 0, none⟩ = some (.bool bg) ∧ ((w.alloc (.cells #[.int .i64 lo, .int .i64 hi] 37)).alloc (.cells #[.bool bg, .slice a nA ca, .slice b nB cb] 24)).cell? ⟨w.heap.size + 1, 1, none⟩ = some (.slice a nA ca) ∧ ((w.alloc (.cells #[.int .i64 lo, .int .i64 hi] 37)).alloc (.cells #[.bool bg, .slice a nA ca, .slice b nB cb] 24)).cell? ⟨w.heap.size + 1, 2, none⟩ = some (.slice b nB cb) := by simp
  go_enter Tryz.func26, Tryz.ntmps26
  obtain ⟨m0, m1, m2, m3, m4⟩ := id k0
  go_wp2_with fail
  refine (PO.out _).mono ?_
  rintro e w1 ⟨rfl, hb1⟩
  have k1 := five_oldH k0 hb1
  have B1 := old_trans e0 hb1
  clear m0 m1 m2 m3 m4 k0 PO
  obtain ⟨m0, m1, m2, m3, m4⟩ := id k1
  go_wp2_with fail
  refine (FO.out _ B1).mono ?_
  rintro e w2 ⟨rfl, hb2⟩
  have k2 := five_oldH k1 hb2
  have hB3 := old_trans B1 hb2
  clear m0 m1 m2 m3 m4 k1 FO e0 B1 hb1 hb2
  obtain ⟨m0, m1, m2, m3, m4⟩ := id k2
  have hk := k2
  go_wp2_with fail
  refine (TP.out _).mono ?_
  rintro e W3 ⟨rfl, rfl⟩
  go_wp2_with fail
  clear TP m0 m1 m2 m3 m4 k2
  have hB3d := hB3.drew
  refine wp_region_held_drew (S := fun w' => w'.cell? ⟨w.heap.size, 0, none⟩ = some (.int .i64 lo) ∧ w'.cell? ⟨w.heap.size, 1, none⟩ = some (.int .i64 hi) ∧ w'.cell? ⟨w.heap.size + 1, 0, none⟩ = some (.bool bg) ∧ w'.cell? ⟨w.heap.size + 1, 1, none⟩ = some (.slice a nA ca) ∧ w'.cell? ⟨w.heap.size + 1, 2, none⟩ = some (.slice b nB cb)) rfl hk ?_
  intro hS
  refine wpAnyH_take (i := 0) (v := ?_) rfl (by kernel_rfl) (by kernel_rfl) (by kernel_rfl) (fun _ _ _ h => h) (Or.inl ⟨by kernel_rfl, ?_⟩) hS ?_
  rotate_left
  · intro w' hS'; obtain ⟨s0, s1, s2, s3, s4⟩ := hS'; go_simp <;> with_reducible rfl
  refine wpAnyH_take (i := 1) (v := ?_) rfl (by kernel_rfl) (by kernel_rfl) (by kernel_rfl) (fun _ _ _ h => h) (Or.inl ⟨by kernel_rfl, ?_⟩) hS ?_
  rotate_left
  · intro w' hS'; obtain ⟨s0, s1, s2, s3, s4⟩ := hS'; go_simp <;> with_reducible rfl
  refine wpAnyH_take (i := 2) (v := ?_) rfl (by kernel_rfl) (by kernel_rfl) (by kernel_rfl) (fun _ _ _ h => h) (Or.inl ⟨by kernel_rfl, ?_⟩) hS ?_
  rotate_left
  · intro w' hS'; obtain ⟨s0, s1, s2, s3, s4⟩ := hS'; go_simp <;> with_reducible rfl
  refine wpAnyH_take (i := 3) (v := ?_) rfl (by kernel_rfl) (by kernel_rfl) (by kernel_rfl) (fun _ _ _ h => h) (Or.inl ⟨by kernel_rfl, ?_⟩) hS ?_
  rotate_left
  · intro w' hS'; obtain ⟨s0, s1, s2, s3, s4⟩ := hS'; go_simp <;> with_reducible rfl
  refine wpAnyH_take (i := 4) (v := ?_) rfl (by kernel_rfl) (by kernel_rfl) (by kernel_rfl) (fun _ _ _ h => h) (Or.inl ⟨by kernel_rfl, ?_⟩) hS ?_
  rotate_left
  · intro w' hS'; obtain ⟨s0, s1, s2, s3, s4⟩ := hS'; go_simp <;> with_reducible rfl
  refine wpAnyH_take (i := 5) (v := ?_) rfl (by kernel_rfl) (by kernel_rfl) (by kernel_rfl) (fun _ _ _ h => h) (Or.inl ⟨by kernel_rfl, ?_⟩) hS ?_
  rotate_left
  · intro w' hS'; obtain ⟨s0, s1, s2, s3, s4⟩ := hS'; go_simp <;> with_reducible rfl
  refine wpAnyH_take (i := 6) (v := ?_) rfl (by kernel_rfl) (by kernel_rfl) (by kernel_rfl) (fun _ _ _ h => h) (Or.inl ⟨by kernel_rfl, ?_⟩) hS ?_
  rotate_left
  · intro w' hS'; obtain ⟨s0, s1, s2, s3, s4⟩ := hS'; go_simp <;> with_reducible rfl
  refine wpAnyH_take (i := 7) (v := ?_) rfl (by kernel_rfl) (by kernel_rfl) (by kernel_rfl) (fun _ _ _ h => h) (Or.inl ⟨by kernel_rfl, ?_⟩) hS ?_
  rotate_left
  · intro w' hS'; obtain ⟨s0, s1, s2, s3, s4⟩ := hS'; go_simp <;> with_reducible rfl
  refine wpAnyH_take (i := 8) (v := ?_) rfl (by kernel_rfl) (by kernel_rfl) (by kernel_rfl) (fun _ _ _ h => h) (Or.inl ⟨by kernel_rfl, ?_⟩) hS ?_
  rotate_left
  · intro w' hS'; obtain ⟨s0, s1, s2, s3, s4⟩ := hS'; go_simp <;> with_reducible rfl
  refine wpAnyH_take (i := 10) (v := ?_) rfl (by kernel_rfl) (by kernel_rfl) (by kernel_rfl) (fun _ _ _ h => h) (Or.inl ⟨by kernel_rfl, ?_⟩) hS ?_
  rotate_left
  · intro w' hS'; obtain ⟨s0, s1, s2, s3, s4⟩ := hS'; go_simp <;> with_reducible rfl
  refine wpAnyH_ready (rs := [9]) (by kernel_rfl) (by simp) ?_
  refine AllReadyH.cons rfl (fun K hK => ?_) AllReadyH.nil
  go_simp
  refine (OL.out _ hS).mono ?_
  rintro e w4 ⟨⟨⟨av, cv, bv, dv, rfl, iv1, iv2⟩, hb4⟩, hc4⟩
  refine hK.out _ _ hc4 ?_
  intro hS4
  clear hK K
  have B4 := old_trans hB3d hb4
  refine wpAnyH_ready (rs := [11]) (by kernel_rfl) (by simp) ?_
  refine AllReadyH.cons rfl (fun K hK => ?_) AllReadyH.nil
  go_simp
  refine (FR.out _ hS4).mono ?_
  rintro e w5 ⟨⟨rfl, hb5⟩, hc5⟩
  refine hK.out _ _ hc5 ?_
  intro hS5
  clear hK K
  have B5 := old_trans B4 hb5
  refine wpAnyH_ready (rs := [12]) (by kernel_rfl) (by simp) ?_
  refine AllReadyH.cons rfl (fun K hK => ?_) AllReadyH.nil
  go_simp
  refine (CL.out _ _ _ _ _ hS5 (iv1.old hb5) (iv2.old hb5) B5).mono ?_
  rintro e w6 ⟨⟨rfl, hb6⟩, hc6⟩
  refine hK.out _ _ hc6 ?_
  intro hS6
  clear hK K
  have B6 := old_trans B5 hb6
  clear iv1 iv2 hb4 hb5 hb6 B4 B5
  refine wpAnyH_take (i := 13) (v := ?_) rfl (by kernel_rfl) (by kernel_rfl) (by kernel_rfl) (fun _ _ _ h => h) (Or.inl ⟨by kernel_rfl, ?_⟩) hS6 ?_
  rotate_left
  · intro w' hS'; obtain ⟨s0, s1, s2, s3, s4⟩ := hS'; go_simp <;> with_reducible rfl
  refine wpAnyH_take (i := 14) (v := ?_) rfl (by kernel_rfl) (by kernel_rfl) (by kernel_rfl) (fun _ _ _ h => h) (Or.inl ⟨by kernel_rfl, ?_⟩) hS6 ?_
  rotate_left
  · intro w' hS'; obtain ⟨s0, s1, s2, s3, s4⟩ := hS'; go_simp <;> with_reducible rfl
  refine wpAnyH_take (i := 15) (v := ?_) rfl (by kernel_rfl) (by kernel_rfl) (by kernel_rfl) (fun _ _ _ h => h) (Or.inl ⟨by kernel_rfl, ?_⟩) hS6 ?_
  rotate_left
  · intro w' hS'; obtain ⟨s0, s1, s2, s3, s4⟩ := hS'; go_simp <;> with_reducible rfl
  refine wpAnyH_take (i := 16) (v := ?_) rfl (by kernel_rfl) (by kernel_rfl) (by kernel_rfl) (fun _ _ _ h => h) (Or.inl ⟨by kernel_rfl, ?_⟩) hS6 ?_
  rotate_left
  · intro w' hS'; obtain ⟨s0, s1, s2, s3, s4⟩ := hS'; go_simp <;> with_reducible rfl
  refine wpAnyH_take (i := 17) (v := ?_) rfl (by kernel_rfl) (by kernel_rfl) (by kernel_rfl) (fun _ _ _ h => h) (Or.inl ⟨by kernel_rfl, ?_⟩) hS6 ?_
  rotate_left
  · intro w' hS'; obtain ⟨s0, s1, s2, s3, s4⟩ := hS'; go_simp <;> with_reducible rfl
  refine wpAnyH_take (i := 18) (v := ?_) rfl (by kernel_rfl) (by kernel_rfl) (by kernel_rfl) (fun _ _ _ h => h) (Or.inl ⟨by kernel_rfl, ?_⟩) hS6 ?_
  rotate_left
  · intro w' hS'; obtain ⟨s0, s1, s2, s3, s4⟩ := hS'; go_simp <;> with_reducible rfl
  refine wpAnyH_take (i := 19) (v := ?_) rfl (by kernel_rfl) (by kernel_rfl) (by kernel_rfl) (fun _ _ _ h => h) (Or.inl ⟨by kernel_rfl, ?_⟩) hS6 ?_
  rotate_left
  · intro w' hS'; obtain ⟨s0, s1, s2, s3, s4⟩ := hS'; go_simp <;> with_reducible rfl
  refine wpAnyH_take (i := 20) (v := ?_) rfl (by kernel_rfl) (by kernel_rfl) (by kernel_rfl) (fun _ _ _ h => h) (Or.inl ⟨by kernel_rfl, ?_⟩) hS6 ?_
  rotate_left
  · intro w' hS'; obtain ⟨s0, s1, s2, s3, s4⟩ := hS'; go_simp <;> with_reducible rfl
  refine wpAnyH_take (i := 21) (v := ?_) rfl (by kernel_rfl) (by kernel_rfl) (by kernel_rfl) (fun _ _ _ h => h) (Or.inl ⟨by kernel_rfl, ?_⟩) hS6 ?_
  rotate_left
  · intro w' hS'; obtain ⟨s0, s1, s2, s3, s4⟩ := hS'; go_simp <;> with_reducible rfl
  refine wpAnyH_take (i := 23) (v := ?_) rfl (by kernel_rfl) (by kernel_rfl) (by kernel_rfl) (fun _ _ _ h => h) (Or.inl ⟨by kernel_rfl, ?_⟩) hS6 ?_
  rotate_left
  · intro w' hS'; obtain ⟨s0, s1, s2, s3, s4⟩ := hS'; go_simp <;> with_reducible rfl
  refine wpAnyH_take (i := 24) (v := ?_) rfl (by kernel_rfl) (by kernel_rfl) (by kernel_rfl) (fun _ _ _ h => h) (Or.inl ⟨by kernel_rfl, ?_⟩) hS6 ?_
  rotate_left
  · intro w' hS'; obtain ⟨s0, s1, s2, s3, s4⟩ := hS'; go_simp <;> with_reducible rfl
  refine wpAnyH_take (i := 25) (v := ?_) rfl (by kernel_rfl) (by kernel_rfl) (by kernel_rfl) (fun _ _ _ h => h) (Or.inl ⟨by kernel_rfl, ?_⟩) hS6 ?_
  rotate_left
  · intro w' hS'; obtain ⟨s0, s1, s2, s3, s4⟩ := hS'; go_simp <;> with_reducible rfl
  refine wpAnyH_ready (rs := [22]) (by kernel_rfl) (by simp) ?_
  refine AllReadyH.cons rfl (fun K hK => ?_) AllReadyH.nil
  go_simp
  refine (FR.out _ hS6).mono ?_
  rintro e w7 ⟨⟨rfl, hb7⟩, hc7⟩
  refine hK.out _ _ hc7 ?_
  intro hS7
  clear hK K
  have B7 := old_trans B6 hb7
  refine wpAnyH_ready (rs := [26]) (by kernel_rfl) (by simp) ?_
  refine AllReadyH.cons rfl (fun K hK => ?_) AllReadyH.nil
  go_simp
  refine (OH.out _ hS7).mono ?_
  rintro e w8 ⟨⟨⟨av2, cv2, bv2, dv2, rfl, iw1, iw2⟩, hb8⟩, hc8⟩
  refine hK.out _ _ hc8 ?_
  intro hS8
  clear hK K
  have B8 := old_trans B7 hb8
  refine wpAnyH_ready (rs := [27]) (by kernel_rfl) (by simp) ?_
  refine AllReadyH.cons rfl (fun K hK => ?_) AllReadyH.nil
  go_simp
  refine (CH.out _ _ _ _ _ hS8 iw1 iw2 B8).mono ?_
  rintro e w9 ⟨⟨rfl, hb9⟩, hc9⟩
  refine hK.out _ _ hc9 ?_
  intro hS9
  clear hK K
  have B9 := old_trans B8 hb9
  refine wpAnyH_take (i := 28) (v := ?_) rfl (by kernel_rfl) (by kernel_rfl) (by kernel_rfl) (fun _ _ _ h => h) (Or.inl ⟨by kernel_rfl, ?_⟩) hS9 ?_
  rotate_left
  · intro w' hS'; obtain ⟨s0, s1, s2, s3, s4⟩ := hS'; go_simp <;> with_reducible rfl
  refine wpAnyH_take (i := 29) (v := ?_) rfl (by kernel_rfl) (by kernel_rfl) (by kernel_rfl) (fun _ _ _ h => h) (Or.inl ⟨by kernel_rfl, ?_⟩) hS9 ?_
  rotate_left
  · intro w' hS'; obtain ⟨s0, s1, s2, s3, s4⟩ := hS'; go_simp <;> with_reducible rfl
  refine wpAnyH_take (i := 30) (v := ?_) rfl (by kernel_rfl) (by kernel_rfl) (by kernel_rfl) (fun _ _ _ h => h) (Or.inl ⟨by kernel_rfl, ?_⟩) hS9 ?_
  rotate_left
  · intro w' hS'; obtain ⟨s0, s1, s2, s3, s4⟩ := hS'; go_simp <;> with_reducible rfl
  refine wpAnyH_take (i := 31) (v := ?_) rfl (by kernel_rfl) (by kernel_rfl) (by kernel_rfl) (fun _ _ _ h => h) (Or.inl ⟨by kernel_rfl, ?_⟩) hS9 ?_
  rotate_left
  · intro w' hS'; obtain ⟨s0, s1, s2, s3, s4⟩ := hS'; go_simp <;> with_reducible rfl
  refine wpAnyH_done (by kernel_rfl) ?_ _
  go_wp2
  go_ret
  exact ⟨by kernel_rfl, B9⟩
end Go.Proofs.YtpjababikpakoaaGreatDoor

/- PairHas of the specification: the walk, case 7. Conditions: contracts of what it calls. Nothing that was there is written. -/
namespace Go.Proofs.YtpjababikpakoaaGreatDoor
open Go.RowKit
set_option linter.unusedVariables false
set_option maxRecDepth 100000

set_option maxRecDepth 100000 in
set_option maxHeartbeats 16000000 in
theorem PHk6 {wd T lo hi : Int} {bg : Bool} {a b : Option Addr} {ca cb nA nB : Nat} {l1 l2 l3 l4 : List Int} {c1 c2 : Int} {sl sh : Bool} {w : World} (H : PHc wd T lo hi bg a b ca cb nA nB l1 l2 l3 l4 c1 c2 sl sh w) (hT : 0 ≤ T ∧ T ≤ 9218868437227405312) (el : lo ≠ -T) (d1 : decide (c1 ≤ 0) = false) :
    Calls Tryz.prog 26 #[.int .i64 wd, .agg #[.int .i64 lo, .int .i64 hi], .agg #[.bool bg, .slice a nA ca, .slice b nB cb]] w fun e w' => e = .returned (.bool false) ∧ Below w.heap.size w w' := by
  obtain ⟨T0, T1⟩ := hT
  have hw : IntKind.i64.wrap (-T) = -T := by rw [IntKind.wrap_i64]; omega
  have PO := hd H.po
  have FO := hd H.fo
  have TP := hd H.tp
  have FR := hd (fun w' (hS : w'.cell? ⟨w.heap.size, 0, none⟩ = some (.int .i64 lo) ∧ w'.cell? ⟨w.heap.size, 1, none⟩ = some (.int .i64 hi) ∧ w'.cell? ⟨w.heap.size + 1, 0, none⟩ = some (.bool bg) ∧ w'.cell? ⟨w.heap.size + 1, 1, none⟩ = some (.slice a nA ca) ∧ w'.cell? ⟨w.heap.size + 1, 2, none⟩ = some (.slice b nB cb)) => (H.fr w').mono (fun e w'' (k : _ ∧ _) => (⟨k, five_oldH hS k.2⟩ : (_ ∧ _) ∧ (w''.cell? ⟨w.heap.size, 0, none⟩ = some (.int .i64 lo) ∧ w''.cell? ⟨w.heap.size, 1, none⟩ = some (.int .i64 hi) ∧ w''.cell? ⟨w.heap.size + 1, 0, none⟩ = some (.bool bg) ∧ w''.cell? ⟨w.heap.size + 1, 1, none⟩ = some (.slice a nA ca) ∧ w''.cell? ⟨w.heap.size + 1, 2, none⟩ = some (.slice b nB cb)))))
  have OL := hd (fun w' (hS : w'.cell? ⟨w.heap.size, 0, none⟩ = some (.int .i64 lo) ∧ w'.cell? ⟨w.heap.size, 1, none⟩ = some (.int .i64 hi) ∧ w'.cell? ⟨w.heap.size + 1, 0, none⟩ = some (.bool bg) ∧ w'.cell? ⟨w.heap.size + 1, 1, none⟩ = some (.slice a nA ca) ∧ w'.cell? ⟨w.heap.size + 1, 2, none⟩ = some (.slice b nB cb)) => (H.ol el w').mono (fun e w'' (k : _ ∧ _) => (⟨k, five_oldH hS k.2⟩ : (_ ∧ _) ∧ (w''.cell? ⟨w.heap.size, 0, none⟩ = some (.int .i64 lo) ∧ w''.cell? ⟨w.heap.size, 1, none⟩ = some (.int .i64 hi) ∧ w''.cell? ⟨w.heap.size + 1, 0, none⟩ = some (.bool bg) ∧ w''.cell? ⟨w.heap.size + 1, 1, none⟩ = some (.slice a nA ca) ∧ w''.cell? ⟨w.heap.size + 1, 2, none⟩ = some (.slice b nB cb)))))
  have CL := hd (fun av cv bv dv w' (hS : w'.cell? ⟨w.heap.size, 0, none⟩ = some (.int .i64 lo) ∧ w'.cell? ⟨w.heap.size, 1, none⟩ = some (.int .i64 hi) ∧ w'.cell? ⟨w.heap.size + 1, 0, none⟩ = some (.bool bg) ∧ w'.cell? ⟨w.heap.size + 1, 1, none⟩ = some (.slice a nA ca) ∧ w'.cell? ⟨w.heap.size + 1, 2, none⟩ = some (.slice b nB cb)) i1 i2 (h : Below w.heap.size w w') => (H.cl el av cv bv dv w' i1 i2 h).mono (fun e w'' (k : _ ∧ _) => (⟨k, five_oldH hS k.2⟩ : (_ ∧ _) ∧ (w''.cell? ⟨w.heap.size, 0, none⟩ = some (.int .i64 lo) ∧ w''.cell? ⟨w.heap.size, 1, none⟩ = some (.int .i64 hi) ∧ w''.cell? ⟨w.heap.size + 1, 0, none⟩ = some (.bool bg) ∧ w''.cell? ⟨w.heap.size + 1, 1, none⟩ = some (.slice a nA ca) ∧ w''.cell? ⟨w.heap.size + 1, 2, none⟩ = some (.slice b nB cb)))))
  have gl : (lo == -T) = false := beq_eq_false_iff_ne.2 el
  clear H el
  generalize l1.length = n1 at *
  generalize l2.length = n2 at *
  generalize l3.length = n3 at *
  generalize l4.length = n4 at *
  have e0 : Below w.heap.size w ((w.alloc (.cells #[.int .i64 lo, .int .i64 hi] 37)).alloc (.cells #[.bool bg, .slice a nA ca, .slice b nB cb] 24)) := old_alloc (old_alloc (Below.refl _ _) _) _
  have k0 : ((w.alloc (.cells #[.int .i64 lo, .int .i64 hi] 37)).alloc (.cells #[.bool bg, .slice a nA ca, .slice b nB cb] 24)).cell? ⟨w.heap.size, 0, none⟩ = some (.int .i64 lo) ∧ ((w.alloc (.cells #[.int .i64 lo, .int .i64 hi] 37)).alloc (.cells #[.bool bg, .slice a nA ca, .slice b nB cb] 24)).cell? ⟨w.heap.size, 1, none⟩ = some (.int .i64 hi) ∧ ((w.alloc (.cells #[.int .i64 lo, .int .i64 hi] 37)).alloc (.cells #[.bool bg, .slice a nA ca, .slice b nB cb] 24)).cell? ⟨w.heap.size + 1, 0, none⟩ = some (.bool bg) ∧ ((w.alloc (.cells #[.int .i64 lo, .int .i64 hi] 37)).alloc (.cells #[.bool bg, .slice a nA ca, .slice b nB cb] 24)).cell? ⟨w.heap.size + 1, 1, none⟩ = some (.slice a nA ca) ∧ ((w.alloc (.cells #[.int .i64 lo, .int .i64 hi] 37)).alloc (.cells #[.bool bg, .slice a nA ca, .slice b nB cb] 24)).cell? ⟨w.heap.size + 1, 2, none⟩ = some (.slice b nB cb) := by simp
  go_enter Tryz.func26, Tryz.ntmps26
  obtain ⟨m0, m1, m2, m3, m4⟩ := id k0
  go_wp2_with fail
  refine (PO.out _).mono ?_
  rintro e w1 ⟨rfl, hb1⟩
  have k1 := five_oldH k0 hb1
  have B1 := old_trans e0 hb1
  clear m0 m1 m2 m3 m4 k0 PO
  obtain ⟨m0, m1, m2, m3, m4⟩ := id k1
  go_wp2_with fail
  refine (FO.out _ B1).mono ?_
  rintro e w2 ⟨rfl, hb2⟩
  have k2 := five_oldH k1 hb2
  have hB3 := old_trans B1 hb2
  clear m0 m1 m2 m3 m4 k1 FO e0 B1 hb1 hb2
  obtain ⟨m0, m1, m2, m3, m4⟩ := id k2
  have hk := k2
  go_wp2_with fail
  refine (TP.out _).mono ?_
  rintro e W3 ⟨rfl, rfl⟩
  go_wp2_with fail
  clear TP m0 m1 m2 m3 m4 k2
  have hB3d := hB3.drew
  refine wp_region_held_drew (S := fun w' => w'.cell? ⟨w.heap.size, 0, none⟩ = some (.int .i64 lo) ∧ w'.cell? ⟨w.heap.size, 1, none⟩ = some (.int .i64 hi) ∧ w'.cell? ⟨w.heap.size + 1, 0, none⟩ = some (.bool bg) ∧ w'.cell? ⟨w.heap.size + 1, 1, none⟩ = some (.slice a nA ca) ∧ w'.cell? ⟨w.heap.size + 1, 2, none⟩ = some (.slice b nB cb)) rfl hk ?_
  intro hS
  refine wpAnyH_take (i := 0) (v := ?_) rfl (by kernel_rfl) (by kernel_rfl) (by kernel_rfl) (fun _ _ _ h => h) (Or.inl ⟨by kernel_rfl, ?_⟩) hS ?_
  rotate_left
  · intro w' hS'; obtain ⟨s0, s1, s2, s3, s4⟩ := hS'; go_simp <;> with_reducible rfl
  refine wpAnyH_take (i := 1) (v := ?_) rfl (by kernel_rfl) (by kernel_rfl) (by kernel_rfl) (fun _ _ _ h => h) (Or.inl ⟨by kernel_rfl, ?_⟩) hS ?_
  rotate_left
  · intro w' hS'; obtain ⟨s0, s1, s2, s3, s4⟩ := hS'; go_simp <;> with_reducible rfl
  refine wpAnyH_take (i := 2) (v := ?_) rfl (by kernel_rfl) (by kernel_rfl) (by kernel_rfl) (fun _ _ _ h => h) (Or.inl ⟨by kernel_rfl, ?_⟩) hS ?_
  rotate_left
  · intro w' hS'; obtain ⟨s0, s1, s2, s3, s4⟩ := hS'; go_simp <;> with_reducible rfl
  refine wpAnyH_take (i := 3) (v := ?_) rfl (by kernel_rfl) (by kernel_rfl) (by kernel_rfl) (fun _ _ _ h => h) (Or.inl ⟨by kernel_rfl, ?_⟩) hS ?_
  rotate_left
  · intro w' hS'; obtain ⟨s0, s1, s2, s3, s4⟩ := hS'; go_simp <;> with_reducible rfl
  refine wpAnyH_take (i := 4) (v := ?_) rfl (by kernel_rfl) (by kernel_rfl) (by kernel_rfl) (fun _ _ _ h => h) (Or.inl ⟨by kernel_rfl, ?_⟩) hS ?_
  rotate_left
  · intro w' hS'; obtain ⟨s0, s1, s2, s3, s4⟩ := hS'; go_simp <;> with_reducible rfl
  refine wpAnyH_take (i := 5) (v := ?_) rfl (by kernel_rfl) (by kernel_rfl) (by kernel_rfl) (fun _ _ _ h => h) (Or.inl ⟨by kernel_rfl, ?_⟩) hS ?_
  rotate_left
  · intro w' hS'; obtain ⟨s0, s1, s2, s3, s4⟩ := hS'; go_simp <;> with_reducible rfl
  refine wpAnyH_take (i := 6) (v := ?_) rfl (by kernel_rfl) (by kernel_rfl) (by kernel_rfl) (fun _ _ _ h => h) (Or.inl ⟨by kernel_rfl, ?_⟩) hS ?_
  rotate_left
  · intro w' hS'; obtain ⟨s0, s1, s2, s3, s4⟩ := hS'; go_simp <;> with_reducible rfl
  refine wpAnyH_take (i := 7) (v := ?_) rfl (by kernel_rfl) (by kernel_rfl) (by kernel_rfl) (fun _ _ _ h => h) (Or.inl ⟨by kernel_rfl, ?_⟩) hS ?_
  rotate_left
  · intro w' hS'; obtain ⟨s0, s1, s2, s3, s4⟩ := hS'; go_simp <;> with_reducible rfl
  refine wpAnyH_take (i := 8) (v := ?_) rfl (by kernel_rfl) (by kernel_rfl) (by kernel_rfl) (fun _ _ _ h => h) (Or.inl ⟨by kernel_rfl, ?_⟩) hS ?_
  rotate_left
  · intro w' hS'; obtain ⟨s0, s1, s2, s3, s4⟩ := hS'; go_simp <;> with_reducible rfl
  refine wpAnyH_take (i := 10) (v := ?_) rfl (by kernel_rfl) (by kernel_rfl) (by kernel_rfl) (fun _ _ _ h => h) (Or.inl ⟨by kernel_rfl, ?_⟩) hS ?_
  rotate_left
  · intro w' hS'; obtain ⟨s0, s1, s2, s3, s4⟩ := hS'; go_simp <;> with_reducible rfl
  refine wpAnyH_ready (rs := [9]) (by kernel_rfl) (by simp) ?_
  refine AllReadyH.cons rfl (fun K hK => ?_) AllReadyH.nil
  go_simp
  refine (OL.out _ hS).mono ?_
  rintro e w4 ⟨⟨⟨av, cv, bv, dv, rfl, iv1, iv2⟩, hb4⟩, hc4⟩
  refine hK.out _ _ hc4 ?_
  intro hS4
  clear hK K
  have B4 := old_trans hB3d hb4
  refine wpAnyH_ready (rs := [11]) (by kernel_rfl) (by simp) ?_
  refine AllReadyH.cons rfl (fun K hK => ?_) AllReadyH.nil
  go_simp
  refine (FR.out _ hS4).mono ?_
  rintro e w5 ⟨⟨rfl, hb5⟩, hc5⟩
  refine hK.out _ _ hc5 ?_
  intro hS5
  clear hK K
  have B5 := old_trans B4 hb5
  refine wpAnyH_ready (rs := [12]) (by kernel_rfl) (by simp) ?_
  refine AllReadyH.cons rfl (fun K hK => ?_) AllReadyH.nil
  go_simp
  refine (CL.out _ _ _ _ _ hS5 (iv1.old hb5) (iv2.old hb5) B5).mono ?_
  rintro e w6 ⟨⟨rfl, hb6⟩, hc6⟩
  refine hK.out _ _ hc6 ?_
  intro hS6
  clear hK K
  have B6 := old_trans B5 hb6
  clear iv1 iv2 hb4 hb5 hb6 B4 B5
  refine wpAnyH_take (i := 13) (v := ?_) rfl (by kernel_rfl) (by kernel_rfl) (by kernel_rfl) (fun _ _ _ h => h) (Or.inl ⟨by kernel_rfl, ?_⟩) hS6 ?_
  rotate_left
  · intro w' hS'; obtain ⟨s0, s1, s2, s3, s4⟩ := hS'; go_simp <;> with_reducible rfl
  refine wpAnyH_take (i := 14) (v := ?_) rfl (by kernel_rfl) (by kernel_rfl) (by kernel_rfl) (fun _ _ _ h => h) (Or.inl ⟨by kernel_rfl, ?_⟩) hS6 ?_
  rotate_left
  · intro w' hS'; obtain ⟨s0, s1, s2, s3, s4⟩ := hS'; go_simp <;> with_reducible rfl
  refine wpAnyH_take (i := 15) (v := ?_) rfl (by kernel_rfl) (by kernel_rfl) (by kernel_rfl) (fun _ _ _ h => h) (Or.inl ⟨by kernel_rfl, ?_⟩) hS6 ?_
  rotate_left
  · intro w' hS'; obtain ⟨s0, s1, s2, s3, s4⟩ := hS'; go_simp <;> with_reducible rfl
  refine wpAnyH_take (i := 16) (v := undef) rfl (by kernel_rfl) (by kernel_rfl) (by kernel_rfl) (fun _ _ _ h => h) (Or.inr ⟨by kernel_rfl, rfl⟩) hS6 ?_
  refine wpAnyH_take (i := 17) (v := undef) rfl (by kernel_rfl) (by kernel_rfl) (by kernel_rfl) (fun _ _ _ h => h) (Or.inr ⟨by kernel_rfl, rfl⟩) hS6 ?_
  refine wpAnyH_take (i := 18) (v := undef) rfl (by kernel_rfl) (by kernel_rfl) (by kernel_rfl) (fun _ _ _ h => h) (Or.inr ⟨by kernel_rfl, rfl⟩) hS6 ?_
  refine wpAnyH_take (i := 19) (v := undef) rfl (by kernel_rfl) (by kernel_rfl) (by kernel_rfl) (fun _ _ _ h => h) (Or.inr ⟨by kernel_rfl, rfl⟩) hS6 ?_
  refine wpAnyH_take (i := 20) (v := undef) rfl (by kernel_rfl) (by kernel_rfl) (by kernel_rfl) (fun _ _ _ h => h) (Or.inr ⟨by kernel_rfl, rfl⟩) hS6 ?_
  refine wpAnyH_take (i := 21) (v := undef) rfl (by kernel_rfl) (by kernel_rfl) (by kernel_rfl) (fun _ _ _ h => h) (Or.inr ⟨by kernel_rfl, rfl⟩) hS6 ?_
  refine wpAnyH_take (i := 22) (v := undef) rfl (by kernel_rfl) (by kernel_rfl) (by kernel_rfl) (fun _ _ _ h => h) (Or.inr ⟨by kernel_rfl, rfl⟩) hS6 ?_
  refine wpAnyH_take (i := 23) (v := undef) rfl (by kernel_rfl) (by kernel_rfl) (by kernel_rfl) (fun _ _ _ h => h) (Or.inr ⟨by kernel_rfl, rfl⟩) hS6 ?_
  refine wpAnyH_take (i := 24) (v := undef) rfl (by kernel_rfl) (by kernel_rfl) (by kernel_rfl) (fun _ _ _ h => h) (Or.inr ⟨by kernel_rfl, rfl⟩) hS6 ?_
  refine wpAnyH_take (i := 25) (v := undef) rfl (by kernel_rfl) (by kernel_rfl) (by kernel_rfl) (fun _ _ _ h => h) (Or.inr ⟨by kernel_rfl, rfl⟩) hS6 ?_
  refine wpAnyH_take (i := 26) (v := undef) rfl (by kernel_rfl) (by kernel_rfl) (by kernel_rfl) (fun _ _ _ h => h) (Or.inr ⟨by kernel_rfl, rfl⟩) hS6 ?_
  refine wpAnyH_take (i := 27) (v := undef) rfl (by kernel_rfl) (by kernel_rfl) (by kernel_rfl) (fun _ _ _ h => h) (Or.inr ⟨by kernel_rfl, rfl⟩) hS6 ?_
  refine wpAnyH_take (i := 28) (v := undef) rfl (by kernel_rfl) (by kernel_rfl) (by kernel_rfl) (fun _ _ _ h => h) (Or.inr ⟨by kernel_rfl, rfl⟩) hS6 ?_
  refine wpAnyH_take (i := 29) (v := undef) rfl (by kernel_rfl) (by kernel_rfl) (by kernel_rfl) (fun _ _ _ h => h) (Or.inr ⟨by kernel_rfl, rfl⟩) hS6 ?_
  refine wpAnyH_take (i := 30) (v := ?_) rfl (by kernel_rfl) (by kernel_rfl) (by kernel_rfl) (fun _ _ _ h => h) (Or.inl ⟨by kernel_rfl, ?_⟩) hS6 ?_
  rotate_left
  · intro w' hS'; obtain ⟨s0, s1, s2, s3, s4⟩ := hS'; go_simp <;> with_reducible rfl
  refine wpAnyH_take (i := 31) (v := ?_) rfl (by kernel_rfl) (by kernel_rfl) (by kernel_rfl) (fun _ _ _ h => h) (Or.inl ⟨by kernel_rfl, ?_⟩) hS6 ?_
  rotate_left
  · intro w' hS'; obtain ⟨s0, s1, s2, s3, s4⟩ := hS'; go_simp <;> with_reducible rfl
  refine wpAnyH_done (by kernel_rfl) ?_ _
  go_wp2
  go_ret
  exact ⟨by kernel_rfl, B6⟩
end Go.Proofs.YtpjababikpakoaaGreatDoor

/- PairHas of both sides, at every argument. Conditions: the library's table and its handle of errors lie as their texts lay them. Nothing that was there is written. -/
namespace Go.Proofs.YtpjababikpakoaaGreatDoor
open Go.RowKit
set_option linter.unusedVariables false
set_option maxRecDepth 100000

theorem phAll {wd T lo hi : Int} {bg : Bool} {a b : Option Addr} {ca cb nA nB : Nat} {l1 l2 l3 l4 : List Int} {c1 c2 : Int} {sl sh : Bool} {w : World} (H : PHc wd T lo hi bg a b ca cb nA nB l1 l2 l3 l4 c1 c2 sl sh w) (hT : 0 ≤ T ∧ T ≤ 9218868437227405312) (p q : Bool) (hp : p = (decide (lo = -T) || decide (c1 ≤ 0))) (hq : q = (decide (hi = T) || decide (c2 ≤ 0))) :
    Calls Tryz.prog 26 #[.int .i64 wd, .agg #[.int .i64 lo, .int .i64 hi], .agg #[.bool bg, .slice a nA ca, .slice b nB cb]] w fun e w' => e = .returned (.bool (p && q)) ∧ Below w.heap.size w w' := by
  by_cases el : lo = -T
  · rw [decide_eq_true el, Bool.true_or] at hp
    subst hp
    by_cases eh : hi = T
    · rw [decide_eq_true eh, Bool.true_or] at hq
      subst hq
      exact PHk0 H hT el eh
    · rw [decide_eq_false eh, Bool.false_or] at hq
      subst hq
      by_cases d : c2 ≤ 0
      · rw [decide_eq_true d]; exact PHk1 H hT el eh (decide_eq_true d)
      · rw [decide_eq_false d]; exact PHk2 H hT el eh (decide_eq_false d)
  · rw [decide_eq_false el, Bool.false_or] at hp
    subst hp
    by_cases d1 : c1 ≤ 0
    · rw [decide_eq_true d1]
      by_cases eh : hi = T
      · rw [decide_eq_true eh, Bool.true_or] at hq
        subst hq
        exact PHk3 H hT el (decide_eq_true d1) eh
      · rw [decide_eq_false eh, Bool.false_or] at hq
        subst hq
        by_cases d : c2 ≤ 0
        · rw [decide_eq_true d]; exact PHk4 H hT el (decide_eq_true d1) eh (decide_eq_true d)
        · rw [decide_eq_false d]; exact PHk5 H hT el (decide_eq_true d1) eh (decide_eq_false d)
    · rw [decide_eq_false d1, Bool.false_and]
      exact PHk6 H hT el (decide_eq_false d1)
theorem sOf32 (n : Int) (h1 : -2139095040 < n) (h2 : n < 2139095040) (w : World) :
    Calls Tryz.prog 41 #[.int .i64 32, .int .i64 n] w fun e w' => (∃ av cv bv dv, e = .returned (.agg #[.bool (decide (n < 0)), .slice av (natL (vA (sz 8388608 n.natAbs) (pw 8388608 (-149) n.natAbs))).length cv, .slice bv (natL (vB (pw 8388608 (-149) n.natAbs))).length dv]) ∧ InI w' av (natL (vA (sz 8388608 n.natAbs) (pw 8388608 (-149) n.natAbs))).length cv (natL (vA (sz 8388608 n.natAbs) (pw 8388608 (-149) n.natAbs))) ∧ InI w' bv (natL (vB (pw 8388608 (-149) n.natAbs))).length dv (natL (vB (pw 8388608 (-149) n.natAbs)))) ∧ Below w.heap.size w w' := by
  have hm : n.natAbs < 2139095040 := by omega
  have hs : sz 8388608 n.natAbs < 9007199254740992 := (Nat.lt_of_lt_of_le sz_bd32 (by omega))
  have hp := pw_bd32 hm
  have PT := fun w => sPart_32 n h1 h2 w
  unfold partV at PT
  rw [absI_nat, show (8388608 : Int) = ((8388608 : Nat) : Int) from rfl, pSize_nat, pPow_nat] at PT
  exact l8_cut 32 n _ _ _ hs (by omega) w (hd PT)
theorem vl32 {n : Int} (h1 : -2139095040 < n) (h2 : n < 2139095040) : (natL (vA (sz 8388608 n.natAbs) (pw 8388608 (-149) n.natAbs))).length ≤ 2000 ∧ (natL (vB (pw 8388608 (-149) n.natAbs))).length ≤ 2000 := by
  have hm : n.natAbs < 2139095040 := by omega
  have hs : sz 8388608 n.natAbs < 9007199254740992 := (Nat.lt_of_lt_of_le sz_bd32 (by omega))
  have hp := pw_bd32 hm
  exact ⟨Nat.le_trans (vA_len hs (by omega)) (by omega), Nat.le_trans (vB_len (by omega)) (by omega)⟩
theorem sPairHas32 (lo hi : Int) (bg : Bool) (a b : Option Addr) (ca cb A B : Nat) (w : World) (hA : InI w a (natL A).length ca (natL A)) (hB : InI w b (natL B).length cb (natL B)) (hp : pokB 32 lo hi = true) (hf : fracOk bg (natL A) (natL B) = true) :
    Calls Tryz.prog 26 #[.int .i64 32, .agg #[.int .i64 lo, .int .i64 hi], .agg #[.bool bg, .slice a (natL A).length ca, .slice b (natL B).length cb]] w fun e w' => e = .returned (.bool (decide (lo ≤ arL32 bg A B) && decide (arH32 bg A B ≤ hi))) ∧ Below w.heap.size w w' := by
  have q := fracOk_in hf
  have q1 := (natOk_in q.1).1
  have q2 := (natOk_in q.2.1).1
  have hy0 : B ≠ 0 := fun e => q.2.2.1 (by rw [e, natL_zero]; rfl)
  have hx0 : bg = true → A ≠ 0 := fun h e => q.2.2.2.2 ⟨h, by rw [e, natL_zero]; rfl⟩
  obtain ⟨p1, p2, p3, p4, p5⟩ := pokB_in hp
  have p1' := (okB_in p1).2
  have p2' := (okB_in p2).2
  rw [topI_32] at p1' p2' p4 p5
  have bd := blO_bd32 q1 q2 hy0
  have bL : -2139095040 ≤ arL32 bg A B := by unfold arL32; split <;> (try split) <;> omega
  have bH : arH32 bg A B ≤ 2139095040 := by unfold arH32; split <;> (try split) <;> omega
  have H : PHc 32 2139095040 lo hi bg a b ca cb (natL A).length (natL B).length (natL (vA (sz 8388608 lo.natAbs) (pw 8388608 (-149) lo.natAbs))) (natL (vB (pw 8388608 (-149) lo.natAbs))) (natL (vA (sz 8388608 hi.natAbs) (pw 8388608 (-149) hi.natAbs))) (natL (vB (pw 8388608 (-149) hi.natAbs))) (cmpS (decide (lo < 0)) (B * vA (sz 8388608 lo.natAbs) (pw 8388608 (-149) lo.natAbs)) bg (vB (pw 8388608 (-149) lo.natAbs) * A)) (cmpS bg (vB (pw 8388608 (-149) hi.natAbs) * A) (decide (hi < 0)) (B * vA (sz 8388608 hi.natAbs) (pw 8388608 (-149) hi.natAbs))) (decide (lo < 0)) (decide (hi < 0)) w := by
    refine ⟨fun w' => ?_, fun w' h => ?_, fun w' => ?_, fun w' => sFracL bg a b _ _ ca cb w', fun h w' => sOf32 lo (by omega) p4 w', fun h w' => sOf32 hi p5 (by omega) w', fun h av cv bv dv w' i1 i2 g => ?_, fun h av cv bv dv w' i1 i2 g => ?_⟩
    · have := sPairOk 32 lo hi w'; rw [hp] at this; exact this
    · have := sFracOk bg a b _ _ ca cb (natL A) (natL B) w' (hA.old h) (hB.old h); rw [hf] at this; exact this
    · have := sTopR 32 w'; rw [topI_32] at this; exact this
    · have v := vl32 (n := lo) (by omega) p4
      exact sL8Cmp (decide (lo < 0)) bg av bv a b cv dv ca cb _ _ A B w' i1 i2 (hA.old g) (hB.old g) v.1 v.2 (by omega) (by omega)
    · have v := vl32 (n := hi) p5 (by omega)
      exact sL8Cmp bg (decide (hi < 0)) a b av bv ca cb cv dv A B _ _ w' (hA.old g) (hB.old g) i1 i2 (by omega) (by omega) v.1 v.2
  refine phAll H ⟨by omega, by omega⟩ _ _ ?_ ?_
  · by_cases e : lo = -2139095040
    · rw [decide_eq_true e, Bool.true_or]; exact decide_eq_true (by omega)
    · rw [decide_eq_false e, Bool.false_or]; exact decide_eq_decide.2 (loOk32 q1 q2 hy0 hx0 lo (by omega) p4).symm
  · by_cases e : hi = 2139095040
    · rw [decide_eq_true e, Bool.true_or]; exact decide_eq_true (by omega)
    · rw [decide_eq_false e, Bool.false_or]; exact decide_eq_decide.2 (hiOk32 q1 q2 hy0 hx0 hi p5 (by omega)).symm
theorem sOf64 (n : Int) (h1 : -9218868437227405312 < n) (h2 : n < 9218868437227405312) (w : World) :
    Calls Tryz.prog 41 #[.int .i64 64, .int .i64 n] w fun e w' => (∃ av cv bv dv, e = .returned (.agg #[.bool (decide (n < 0)), .slice av (natL (vA (sz 4503599627370496 n.natAbs) (pw 4503599627370496 (-1074) n.natAbs))).length cv, .slice bv (natL (vB (pw 4503599627370496 (-1074) n.natAbs))).length dv]) ∧ InI w' av (natL (vA (sz 4503599627370496 n.natAbs) (pw 4503599627370496 (-1074) n.natAbs))).length cv (natL (vA (sz 4503599627370496 n.natAbs) (pw 4503599627370496 (-1074) n.natAbs))) ∧ InI w' bv (natL (vB (pw 4503599627370496 (-1074) n.natAbs))).length dv (natL (vB (pw 4503599627370496 (-1074) n.natAbs)))) ∧ Below w.heap.size w w' := by
  have hm : n.natAbs < 9218868437227405312 := by omega
  have hs : sz 4503599627370496 n.natAbs < 9007199254740992 := sz_bd
  have hp := pw_bd hm
  have PT := fun w => sPart_64 n h1 h2 w
  unfold partV at PT
  rw [absI_nat, show (4503599627370496 : Int) = ((4503599627370496 : Nat) : Int) from rfl, pSize_nat, pPow_nat] at PT
  exact l8_cut 64 n _ _ _ hs (by omega) w (hd PT)
theorem vl64 {n : Int} (h1 : -9218868437227405312 < n) (h2 : n < 9218868437227405312) : (natL (vA (sz 4503599627370496 n.natAbs) (pw 4503599627370496 (-1074) n.natAbs))).length ≤ 2000 ∧ (natL (vB (pw 4503599627370496 (-1074) n.natAbs))).length ≤ 2000 := by
  have hm : n.natAbs < 9218868437227405312 := by omega
  have hs : sz 4503599627370496 n.natAbs < 9007199254740992 := sz_bd
  have hp := pw_bd hm
  exact ⟨Nat.le_trans (vA_len hs (by omega)) (by omega), Nat.le_trans (vB_len (by omega)) (by omega)⟩
theorem sPairHas64 (lo hi : Int) (bg : Bool) (a b : Option Addr) (ca cb A B : Nat) (w : World) (hA : InI w a (natL A).length ca (natL A)) (hB : InI w b (natL B).length cb (natL B)) (hp : pokB 64 lo hi = true) (hf : fracOk bg (natL A) (natL B) = true) :
    Calls Tryz.prog 26 #[.int .i64 64, .agg #[.int .i64 lo, .int .i64 hi], .agg #[.bool bg, .slice a (natL A).length ca, .slice b (natL B).length cb]] w fun e w' => e = .returned (.bool (decide (lo ≤ arL64 bg A B) && decide (arH64 bg A B ≤ hi))) ∧ Below w.heap.size w w' := by
  have q := fracOk_in hf
  have q1 := (natOk_in q.1).1
  have q2 := (natOk_in q.2.1).1
  have hy0 : B ≠ 0 := fun e => q.2.2.1 (by rw [e, natL_zero]; rfl)
  have hx0 : bg = true → A ≠ 0 := fun h e => q.2.2.2.2 ⟨h, by rw [e, natL_zero]; rfl⟩
  obtain ⟨p1, p2, p3, p4, p5⟩ := pokB_in hp
  have p1' := (okB_in p1).2
  have p2' := (okB_in p2).2
  rw [topI_64] at p1' p2' p4 p5
  have bd := blO_bd64 q1 q2 hy0
  have bL : -9218868437227405312 ≤ arL64 bg A B := by unfold arL64; split <;> (try split) <;> omega
  have bH : arH64 bg A B ≤ 9218868437227405312 := by unfold arH64; split <;> (try split) <;> omega
  have H : PHc 64 9218868437227405312 lo hi bg a b ca cb (natL A).length (natL B).length (natL (vA (sz 4503599627370496 lo.natAbs) (pw 4503599627370496 (-1074) lo.natAbs))) (natL (vB (pw 4503599627370496 (-1074) lo.natAbs))) (natL (vA (sz 4503599627370496 hi.natAbs) (pw 4503599627370496 (-1074) hi.natAbs))) (natL (vB (pw 4503599627370496 (-1074) hi.natAbs))) (cmpS (decide (lo < 0)) (B * vA (sz 4503599627370496 lo.natAbs) (pw 4503599627370496 (-1074) lo.natAbs)) bg (vB (pw 4503599627370496 (-1074) lo.natAbs) * A)) (cmpS bg (vB (pw 4503599627370496 (-1074) hi.natAbs) * A) (decide (hi < 0)) (B * vA (sz 4503599627370496 hi.natAbs) (pw 4503599627370496 (-1074) hi.natAbs))) (decide (lo < 0)) (decide (hi < 0)) w := by
    refine ⟨fun w' => ?_, fun w' h => ?_, fun w' => ?_, fun w' => sFracL bg a b _ _ ca cb w', fun h w' => sOf64 lo (by omega) p4 w', fun h w' => sOf64 hi p5 (by omega) w', fun h av cv bv dv w' i1 i2 g => ?_, fun h av cv bv dv w' i1 i2 g => ?_⟩
    · have := sPairOk 64 lo hi w'; rw [hp] at this; exact this
    · have := sFracOk bg a b _ _ ca cb (natL A) (natL B) w' (hA.old h) (hB.old h); rw [hf] at this; exact this
    · have := sTopR 64 w'; rw [topI_64] at this; exact this
    · have v := vl64 (n := lo) (by omega) p4
      exact sL8Cmp (decide (lo < 0)) bg av bv a b cv dv ca cb _ _ A B w' i1 i2 (hA.old g) (hB.old g) v.1 v.2 (by omega) (by omega)
    · have v := vl64 (n := hi) p5 (by omega)
      exact sL8Cmp bg (decide (hi < 0)) a b av bv ca cb cv dv A B _ _ w' (hA.old g) (hB.old g) i1 i2 (by omega) (by omega) v.1 v.2
  refine phAll H ⟨by omega, by omega⟩ _ _ ?_ ?_
  · by_cases e : lo = -9218868437227405312
    · rw [decide_eq_true e, Bool.true_or]; exact decide_eq_true (by omega)
    · rw [decide_eq_false e, Bool.false_or]; exact decide_eq_decide.2 (loOk64 q1 q2 hy0 hx0 lo (by omega) p4).symm
  · by_cases e : hi = 9218868437227405312
    · rw [decide_eq_true e, Bool.true_or]; exact decide_eq_true (by omega)
    · rw [decide_eq_false e, Bool.false_or]; exact decide_eq_decide.2 (hiOk64 q1 q2 hy0 hx0 hi p5 (by omega)).symm
def phB (wd lo hi : Int) (bg : Bool) (xs ys : List Int) : Bool := pokB wd lo hi && (fracOk bg xs ys && (decide (lo ≤ pfL wd bg xs ys) && decide (pfH wd bg xs ys ≤ hi)))
set_option maxHeartbeats 2000000 in
theorem sPairHas (wd lo hi : Int) (bg : Bool) (a b : Option Addr) (la lb ca cb : Nat) (xs ys : List Int) (w : World) (hA : InI w a la ca xs) (hB : InI w b lb cb ys) :
    Calls Tryz.prog 26 #[.int .i64 wd, .agg #[.int .i64 lo, .int .i64 hi], .agg #[.bool bg, .slice a la ca, .slice b lb cb]] w fun e w' => e = .returned (.bool (phB wd lo hi bg xs ys)) ∧ Below w.heap.size w w' := by
  unfold phB
  have e0 : Below w.heap.size w ((w.alloc (.cells #[.int .i64 lo, .int .i64 hi] 37)).alloc (.cells #[.bool bg, .slice a la ca, .slice b lb cb] 24)) := old_alloc (old_alloc (Below.refl _ _) _) _
  have PO := hd (sPairOk wd lo hi)
  cases hp : pokB wd lo hi
  · rw [Bool.false_and]
    rw [hp] at PO
    clear hp hA hB
    go_enter Tryz.func26, Tryz.ntmps26
    go_wp2_with fail
    refine (PO.out _).mono ?_
    rintro e w1 ⟨rfl, hb1⟩
    go_wp2
    go_ret
    exact ⟨rfl, old_trans e0 hb1⟩
  rw [Bool.true_and]
  have FO := hd (fun w' (h : Below w.heap.size w w') => sFracOk bg a b la lb ca cb xs ys w' (hA.old h) (hB.old h))
  cases hf : fracOk bg xs ys
  · rw [Bool.false_and]
    rw [hp] at PO
    rw [hf] at FO
    have k0 : (((w.alloc (.cells #[.int .i64 lo, .int .i64 hi] 37)).alloc (.cells #[.bool bg, .slice a la ca, .slice b lb cb] 24))).cell? ⟨w.heap.size + 1, 0, none⟩ = some (.bool bg) ∧ (((w.alloc (.cells #[.int .i64 lo, .int .i64 hi] 37)).alloc (.cells #[.bool bg, .slice a la ca, .slice b lb cb] 24))).cell? ⟨w.heap.size + 1, 1, none⟩ = some (.slice a la ca) ∧ (((w.alloc (.cells #[.int .i64 lo, .int .i64 hi] 37)).alloc (.cells #[.bool bg, .slice a la ca, .slice b lb cb] 24))).cell? ⟨w.heap.size + 1, 2, none⟩ = some (.slice b lb cb) := by simp
    clear hp hf hA hB
    go_enter Tryz.func26, Tryz.ntmps26
    go_wp2_with fail
    refine (PO.out _).mono ?_
    rintro e w1 ⟨rfl, hb1⟩
    have B1 := old_trans e0 hb1
    have m0 := cell_later hb1 k0.1
    have m1 := cell_later hb1 k0.2.1
    have m2 := cell_later hb1 k0.2.2
    clear k0
    go_wp2_with fail
    refine (FO.out _ B1).mono ?_
    rintro e w2 ⟨rfl, hb2⟩
    go_wp2
    go_ret
    exact ⟨rfl, old_trans B1 hb2⟩
  rw [Bool.true_and]
  have hw := (okB_in (pokB_in hp).1).1
  have ok : pfOk wd bg xs ys = true := by unfold pfOk; rw [hf, decide_eq_true hw]; rfl
  have q := fracOk_in hf
  have ex := canon_list q.1
  have ey := canon_list q.2.1
  unfold pfL pfH
  rw [ok, if_pos rfl, if_pos rfl]
  clear ok PO FO e0
  generalize val xs = A at *
  generalize val ys = B at *
  subst ex ey
  obtain rfl := hA.1
  obtain rfl := hB.1
  rcases hw with rfl | rfl
  · exact sPairHas32 lo hi bg a b ca cb A B w hA hB hp hf
  · exact sPairHas64 lo hi bg a b ca cb A B w hA hB hp hf
set_option maxHeartbeats 2000000 in
theorem iPairHas (wd lo hi : Int) (bg : Bool) (a b : Option Addr) (la lb ca cb : Nat) (xs ys : List Int) (w : World) (hA : InI w a la ca xs) (hB : InI w b lb cb ys) (hT : Tab w) (hE : ET w) :
    Calls Tryz.prog 28 #[.int .i64 wd, .agg #[.int .i64 lo, .int .i64 hi], .agg #[.bool bg, .slice a la ca, .slice b lb cb]] w fun e w' => e = .returned (.bool (phB wd lo hi bg xs ys)) ∧ Below w.heap.size w w' := by
  have e0 : Below w.heap.size w ((w.alloc (.cells #[.int .i64 lo, .int .i64 hi] 37)).alloc (.cells #[.bool bg, .slice a la ca, .slice b lb cb] 24)) := old_alloc (old_alloc (Below.refl _ _) _) _
  have k0 : (((w.alloc (.cells #[.int .i64 lo, .int .i64 hi] 37)).alloc (.cells #[.bool bg, .slice a la ca, .slice b lb cb] 24))).cell? ⟨w.heap.size, 0, none⟩ = some (.int .i64 lo) ∧ (((w.alloc (.cells #[.int .i64 lo, .int .i64 hi] 37)).alloc (.cells #[.bool bg, .slice a la ca, .slice b lb cb] 24))).cell? ⟨w.heap.size, 1, none⟩ = some (.int .i64 hi) := by simp
  have z0 : w.heap.size < (((w.alloc (.cells #[.int .i64 lo, .int .i64 hi] 37)).alloc (.cells #[.bool bg, .slice a la ca, .slice b lb cb] 24))).heap.size := by simp; omega
  have PF := hd (iPairFrac wd bg a b la lb ca cb xs ys _ (hA.old e0) (hB.old e0) (hT.old e0) (hE.old e0))
  have PO := hd (iPairOk wd lo hi)
  have PI := hd (fun p q => iPairIs p q lo hi)
  obtain ⟨res, hres⟩ : ∃ r, phB wd lo hi bg xs ys = r := ⟨_, rfl⟩
  rw [hres]
  unfold phB at hres
  clear hA hB hT hE
  have hw := hd (fun (h : pokB wd lo hi = true) => (okB_in (pokB_in h).1).1)
  have eo : pfOk wd bg xs ys = (decide (wd = 32 ∨ wd = 64) && fracOk bg xs ys) := rfl
  generalize pfL wd bg xs ys = pl at *
  generalize pfH wd bg xs ys = ph at *
  generalize pfOk wd bg xs ys = ok at *
  generalize fracOk bg xs ys = fk at *
  generalize pokB wd lo hi = pk at *
  cases ok
  · have hq : Hid (res = false) := by
      rw [← hres]
      cases pk
      · rfl
      · rw [decide_eq_true (hw.out rfl), Bool.true_and] at eo
        subst eo
        rfl
    clear hres eo hw PO PI
    go_enter Tryz.func28, Tryz.ntmps28
    go_wp2_with fail
    refine PF.out.mono ?_
    rintro e w1 ⟨rfl, hb1⟩
    go_wp2
    go_ret
    exact ⟨by rw [hq.out]; rfl, old_alloc (old_trans e0 hb1) _⟩
  · have fk1 : fk = true := by
      cases fk
      · rw [Bool.and_false] at eo; cases eo
      · rfl
    subst fk1
    rw [Bool.true_and] at hres
    clear eo hw
    cases pk
    · have hq : Hid (res = false) := by rw [← hres]; rfl
      clear hres PI
      go_enter Tryz.func28, Tryz.ntmps28
      go_wp2_with fail
      refine PF.out.mono ?_
      rintro e w1 ⟨rfl, hb1⟩
      have m0 := cell_later hb1 k0.1
      have m1 := cell_later hb1 k0.2
      have z1 : w.heap.size < w1.heap.size := Nat.lt_of_lt_of_le z0 hb1.size
      have B1 := old_trans e0 hb1
      clear k0 z0 e0 hb1
      go_wp2_with fail
      refine (PO.out _).mono ?_
      rintro e w2 ⟨rfl, hb2⟩
      go_wp2
      go_ret
      exact ⟨by rw [hq.out]; rfl, old_trans (old_alloc B1 _) hb2⟩
    · have hq : Hid (res = isB pl ph lo hi) := hd (by rw [← hres]; unfold isB; rw [Bool.true_and, ← Bool.decide_and])
      clear hres
      go_enter Tryz.func28, Tryz.ntmps28
      go_wp2_with fail
      refine PF.out.mono ?_
      rintro e w1 ⟨rfl, hb1⟩
      have m0 := cell_later hb1 k0.1
      have m1 := cell_later hb1 k0.2
      have z1 : w.heap.size < w1.heap.size := Nat.lt_of_lt_of_le z0 hb1.size
      have z1' := Nat.ne_of_lt z1
      have B1 := old_trans e0 hb1
      clear k0 z0 e0 hb1
      go_wp2_with fail
      refine (PO.out _).mono ?_
      rintro e w2 ⟨rfl, hb2⟩
      have n0 := cell_later hb2 (show (w1.alloc (.cells #[.int .i64 pl, .int .i64 ph] 37)).cell? ⟨w1.heap.size, 0, none⟩ = some (.int .i64 pl) by simp)
      have n1 := cell_later hb2 (show (w1.alloc (.cells #[.int .i64 pl, .int .i64 ph] 37)).cell? ⟨w1.heap.size, 1, none⟩ = some (.int .i64 ph) by simp)
      have m0' := cell_later (old_trans (old_alloc (Below.refl _ w1) _) hb2) m0
      have m1' := cell_later (old_trans (old_alloc (Below.refl _ w1) _) hb2) m1
      have B2 := old_trans (old_alloc B1 (.cells #[.int .i64 pl, .int .i64 ph] 37)) hb2
      clear m0 m1
      go_wp2_with fail
      refine (PI.out _ _ _).mono ?_
      rintro e w3 ⟨rfl, hb3⟩
      generalize isB pl ph lo hi = r3 at *
      go_wp2
      go_ret
      exact ⟨by rw [hq.out]; rfl, old_trans B2 hb3⟩
end Go.Proofs.YtpjababikpakoaaGreatDoor

/- A law's own copies of a pair and a span; what they give when they are opened; SpanHas of both sides. Nothing that was there is written. -/
namespace Go.Proofs.YtpjababikpakoaaGreatDoor
open Go.ChangeShapes Go.WideShapes Go.ChangeAt Go.RowKit
set_option linter.unusedVariables false
set_option maxRecDepth 100000

section
variable {H : Type} {enc : TypeId × Value → H} {w : World} {base : Nat}
set_option maxRecDepth 100000 in
theorem open_lpairH {r : Reach} {b0 : Nat} {v : Value} {d : DataW H} {p : List MemPlace} (hv : Value.okWide Tryz.prog w r b0 41 v) (h : DataW.Trod enc Tryz.prog w base (fun _ => true) true 41 v d p) :
    ∃ a b : Int, v = .agg #[.int .i64 a, .int .i64 b] ∧ (-9223372036854775808 ≤ a ∧ a ≤ 9223372036854775807) ∧ -9223372036854775808 ≤ b ∧ b ≤ 9223372036854775807 := by
  obtain ⟨v0, v1, y0, y1, n, rfl, -, -, h0, h1⟩ := Joins.open_agg2 Tryz.underlying41 (by kernel_rfl) (by kernel_rfl) hv h
  obtain ⟨a, e0, -, wa⟩ := DataW.trod_int Tryz.underlying3 h0
  obtain ⟨b, e1, -, wb⟩ := DataW.trod_int Tryz.underlying3 h1
  simp at e0 e1
  subst e0 e1
  exact ⟨a, b, rfl, bounds_i64 wa, bounds_i64 wb⟩
end
theorem toPairH (lo hi : Int) (w : World) :
    Calls Tryz.prog 27 #[.agg #[.int .i64 lo, .int .i64 hi]] w fun e w' => e = .returned (.agg #[.int .i64 lo, .int .i64 hi]) ∧ Below w.heap.size w w' := by
  go_enter Tryz.func27, Tryz.ntmps27
  go_wp2
  refine bodyPost_ret (v := .agg #[.int .i64 lo, .int .i64 hi]) ?_ rfl ⟨rfl, (by repeat (first | with_reducible exact Below.refl _ _ | with_reducible refine Below.drew ?_ | ((with_reducible refine Below.setCell ?_ ?_ _); rotate_left; (focus (first | (simp; done) | omega | (simp; omega)))) | with_reducible refine old_alloc ?_ _ | with_reducible refine old_trans ?_ (by with_reducible assumption)))⟩
  simp [results, Tryz.results27, go_sem]
theorem toSpanH (sm : Bool) (lo hi : Int) (w : World) :
    Calls Tryz.prog 30 #[.agg #[.bool sm, .int .i64 lo, .int .i64 hi]] w fun e w' => e = .returned (.agg #[.bool sm, .int .i64 lo, .int .i64 hi]) ∧ Below w.heap.size w w' := by
  go_enter Tryz.func30, Tryz.ntmps30
  go_wp2
  refine bodyPost_ret (v := .agg #[.bool sm, .int .i64 lo, .int .i64 hi]) ?_ rfl ⟨rfl, (by repeat (first | with_reducible exact Below.refl _ _ | with_reducible refine Below.drew ?_ | ((with_reducible refine Below.setCell ?_ ?_ _); rotate_left; (focus (first | (simp; done) | omega | (simp; omega)))) | with_reducible refine old_alloc ?_ _ | with_reducible refine old_trans ?_ (by with_reducible assumption)))⟩
  simp [results, Tryz.results30, go_sem]
end Go.Proofs.YtpjababikpakoaaGreatDoor

/- What an argument of this seat's laws gives when it is opened: a span. No condition. -/
namespace Go.Proofs.YtpjababikpakoaaGreatDoor
open Go.ChangeShapes Go.WideShapes Go.ChangeAt Go.RowKit

section
variable {H : Type} {enc : TypeId × Value → H} {w : World} {base : Nat}
set_option maxRecDepth 100000 in
theorem open_lspan {r : Reach} {b0 : Nat} {v : Value} {d : DataW H} {p : List MemPlace} (hv : Value.okWide Tryz.prog w r b0 46 v) (h : DataW.Trod enc Tryz.prog w base (fun _ => true) true 46 v d p) :
    ∃ (s : Bool) (a b : Int), v = .agg #[.bool s, .int .i64 a, .int .i64 b] ∧ (-9223372036854775808 ≤ a ∧ a ≤ 9223372036854775807) ∧ -9223372036854775808 ≤ b ∧ b ≤ 9223372036854775807 := by
  obtain ⟨v0, v1, v2, y0, y1, y2, n, rfl, -, -, h0, h1, h2⟩ := Joins.open_agg3 Tryz.underlying46 (by kernel_rfl) (by kernel_rfl) hv h
  obtain ⟨s, e0, -⟩ := DataW.trod_bool Tryz.underlying4 h0
  obtain ⟨a, e1, -, wa⟩ := DataW.trod_int Tryz.underlying3 h1
  obtain ⟨b, e2, -, wb⟩ := DataW.trod_int Tryz.underlying3 h2
  simp at e0 e1 e2
  subst e0 e1 e2
  exact ⟨s, a, b, rfl, bounds_i64 wa, bounds_i64 wb⟩
end
end Go.Proofs.YtpjababikpakoaaGreatDoor

/- SpanHas of both sides, at every argument. Conditions, of the program: the library's table and its handle of errors lie as their texts lay them. Nothing that was there is written. -/
namespace Go.Proofs.YtpjababikpakoaaGreatDoor
open Go.RowKit
set_option linter.unusedVariables false
set_option maxRecDepth 100000

theorem sL9PairH (sm : Bool) (lo hi : Int) (w : World) :
    Calls Tryz.prog 64 #[.agg #[.bool sm, .int .i64 lo, .int .i64 hi]] w fun e w' => e = .returned (.agg #[.int .i64 lo, .int .i64 hi]) ∧ Below w.heap.size w w' := by
  go_enter Tryz.func64, Tryz.ntmps64
  go_wp2
  refine bodyPost_ret (v := .agg #[.int .i64 lo, .int .i64 hi]) ?_ rfl ⟨rfl, (by repeat (first | with_reducible exact Below.refl _ _ | with_reducible refine Below.drew ?_ | ((with_reducible refine Below.setCell ?_ ?_ _); rotate_left; (focus (first | (simp; done) | omega | (simp; omega)))) | with_reducible refine old_alloc ?_ _ | with_reducible refine old_trans ?_ (by with_reducible assumption)))⟩
  simp [results, Tryz.results64, go_sem]
set_option maxHeartbeats 4000000 in
theorem sSpanHas (wd : Int) (sm : Bool) (lo hi : Int) (bg : Bool) (a b : Option Addr) (la lb ca cb : Nat) (xs ys : List Int) (w : World) (hA : InI w a la ca xs) (hB : InI w b lb cb ys) :
    Calls Tryz.prog 29 #[.int .i64 wd, .agg #[.bool sm, .int .i64 lo, .int .i64 hi], .agg #[.bool bg, .slice a la ca, .slice b lb cb]] w fun e w' => e = .returned (.bool (sm && phB wd lo hi bg xs ys)) ∧ Below w.heap.size w w' := by
  have e0 : Below w.heap.size w ((w.alloc (.cells #[.bool sm, .int .i64 lo, .int .i64 hi] 48)).alloc (.cells #[.bool bg, .slice a la ca, .slice b lb cb] 24)) := old_alloc (old_alloc (Below.refl _ _) _) _
  cases sm
  · rw [Bool.false_and]
    clear hA hB
    go_enter Tryz.func29, Tryz.ntmps29
    go_wp2_with fail
    go_quiet (fail)
    go_wp2
    go_ret
    exact ⟨rfl, e0.trans ⟨rfl, rfl, rfl, Nat.le_refl _, fun _ _ => rfl⟩⟩
  · rw [Bool.true_and]
    have PH := hd (fun w' (h : Below w.heap.size w w') => sPairHas wd lo hi bg a b la lb ca cb xs ys w' (hA.old h) (hB.old h))
    generalize phB wd lo hi bg xs ys = r at *
    clear hA hB
    have k0 : ((w.alloc (.cells #[.bool true, .int .i64 lo, .int .i64 hi] 48)).alloc (.cells #[.bool bg, .slice a la ca, .slice b lb cb] 24)).cell? ⟨w.heap.size, 0, none⟩ = some (.bool true) ∧ ((w.alloc (.cells #[.bool true, .int .i64 lo, .int .i64 hi] 48)).alloc (.cells #[.bool bg, .slice a la ca, .slice b lb cb] 24)).cell? ⟨w.heap.size, 1, none⟩ = some (.int .i64 lo) ∧ ((w.alloc (.cells #[.bool true, .int .i64 lo, .int .i64 hi] 48)).alloc (.cells #[.bool bg, .slice a la ca, .slice b lb cb] 24)).cell? ⟨w.heap.size, 2, none⟩ = some (.int .i64 hi) ∧ ((w.alloc (.cells #[.bool true, .int .i64 lo, .int .i64 hi] 48)).alloc (.cells #[.bool bg, .slice a la ca, .slice b lb cb] 24)).cell? ⟨w.heap.size + 1, 0, none⟩ = some (.bool bg) ∧ ((w.alloc (.cells #[.bool true, .int .i64 lo, .int .i64 hi] 48)).alloc (.cells #[.bool bg, .slice a la ca, .slice b lb cb] 24)).cell? ⟨w.heap.size + 1, 1, none⟩ = some (.slice a la ca) ∧ ((w.alloc (.cells #[.bool true, .int .i64 lo, .int .i64 hi] 48)).alloc (.cells #[.bool bg, .slice a la ca, .slice b lb cb] 24)).cell? ⟨w.heap.size + 1, 2, none⟩ = some (.slice b lb cb) := by simp
    obtain ⟨m0, m1, m2, m3, m4, m5⟩ := id k0
    have LP := hd (fun w' (hS : w'.cell? ⟨w.heap.size, 0, none⟩ = some (.bool true) ∧ w'.cell? ⟨w.heap.size, 1, none⟩ = some (.int .i64 lo) ∧ w'.cell? ⟨w.heap.size, 2, none⟩ = some (.int .i64 hi) ∧ w'.cell? ⟨w.heap.size + 1, 0, none⟩ = some (.bool bg) ∧ w'.cell? ⟨w.heap.size + 1, 1, none⟩ = some (.slice a la ca) ∧ w'.cell? ⟨w.heap.size + 1, 2, none⟩ = some (.slice b lb cb)) => (sL9PairH true lo hi w').mono (fun e w'' (k : _ ∧ _) => (⟨k, six_old hS k.2⟩ : (_ ∧ _) ∧ (w''.cell? ⟨w.heap.size, 0, none⟩ = some (.bool true) ∧ w''.cell? ⟨w.heap.size, 1, none⟩ = some (.int .i64 lo) ∧ w''.cell? ⟨w.heap.size, 2, none⟩ = some (.int .i64 hi) ∧ w''.cell? ⟨w.heap.size + 1, 0, none⟩ = some (.bool bg) ∧ w''.cell? ⟨w.heap.size + 1, 1, none⟩ = some (.slice a la ca) ∧ w''.cell? ⟨w.heap.size + 1, 2, none⟩ = some (.slice b lb cb)))))
    have PQ := hd (fun w' (hS : w'.cell? ⟨w.heap.size, 0, none⟩ = some (.bool true) ∧ w'.cell? ⟨w.heap.size, 1, none⟩ = some (.int .i64 lo) ∧ w'.cell? ⟨w.heap.size, 2, none⟩ = some (.int .i64 hi) ∧ w'.cell? ⟨w.heap.size + 1, 0, none⟩ = some (.bool bg) ∧ w'.cell? ⟨w.heap.size + 1, 1, none⟩ = some (.slice a la ca) ∧ w'.cell? ⟨w.heap.size + 1, 2, none⟩ = some (.slice b lb cb)) (h : Below w.heap.size w w') => (PH.out w' h).mono (fun e w'' (k : _ ∧ _) => (⟨k, six_old hS k.2⟩ : (_ ∧ _) ∧ (w''.cell? ⟨w.heap.size, 0, none⟩ = some (.bool true) ∧ w''.cell? ⟨w.heap.size, 1, none⟩ = some (.int .i64 lo) ∧ w''.cell? ⟨w.heap.size, 2, none⟩ = some (.int .i64 hi) ∧ w''.cell? ⟨w.heap.size + 1, 0, none⟩ = some (.bool bg) ∧ w''.cell? ⟨w.heap.size + 1, 1, none⟩ = some (.slice a la ca) ∧ w''.cell? ⟨w.heap.size + 1, 2, none⟩ = some (.slice b lb cb)))))
    clear PH
    go_enter Tryz.func29, Tryz.ntmps29
    go_wp2_with fail
    go_region_held3 (fun w' => w'.cell? ⟨w.heap.size, 0, none⟩ = some (.bool true) ∧ w'.cell? ⟨w.heap.size, 1, none⟩ = some (.int .i64 lo) ∧ w'.cell? ⟨w.heap.size, 2, none⟩ = some (.int .i64 hi) ∧ w'.cell? ⟨w.heap.size + 1, 0, none⟩ = some (.bool bg) ∧ w'.cell? ⟨w.heap.size + 1, 1, none⟩ = some (.slice a la ca) ∧ w'.cell? ⟨w.heap.size + 1, 2, none⟩ = some (.slice b lb cb)) (go_keep) (first | (go_at_call 64; refine (LP.out _ (by assumption)).mono ?_; rintro e w1 ⟨⟨rfl, hb1⟩, hc1⟩; have B1 := old_trans e0.drew hb1) | (go_at_call 26; refine (PQ.out _ (by assumption) (by assumption)).mono ?_; rintro e w2 ⟨⟨rfl, hb2⟩, hc2⟩))
    all_goals
      have B2 := old_trans (old_trans e0.drew hb1) hb2
      go_wp2
      go_ret
      exact ⟨rfl, B2⟩
set_option maxHeartbeats 2000000 in
theorem iSpanHas (wd : Int) (sm : Bool) (lo hi : Int) (bg : Bool) (a b : Option Addr) (la lb ca cb : Nat) (xs ys : List Int) (w : World) (hA : InI w a la ca xs) (hB : InI w b lb cb ys) (hT : Tab w) (hE : ET w) :
    Calls Tryz.prog 31 #[.int .i64 wd, .agg #[.bool sm, .int .i64 lo, .int .i64 hi], .agg #[.bool bg, .slice a la ca, .slice b lb cb]] w fun e w' => e = .returned (.bool (sm && phB wd lo hi bg xs ys)) ∧ Below w.heap.size w w' := by
  have e0 : Below w.heap.size w ((w.alloc (.cells #[.bool sm, .int .i64 lo, .int .i64 hi] 48)).alloc (.cells #[.bool bg, .slice a la ca, .slice b lb cb] 24)) := old_alloc (old_alloc (Below.refl _ _) _) _
  have PH := hd (iPairHas wd lo hi bg a b la lb ca cb xs ys _ (hA.old e0) (hB.old e0) (hT.old e0) (hE.old e0))
  clear hA hB hT hE
  cases sm
  · rw [Bool.false_and]
    clear PH
    go_enter Tryz.func31, Tryz.ntmps31
    go_wp2
    go_ret
    exact ⟨rfl, e0⟩
  · rw [Bool.true_and]
    generalize phB wd lo hi bg xs ys = r at *
    go_enter Tryz.func31, Tryz.ntmps31
    go_wp2_with fail
    refine PH.out.mono ?_
    rintro e w1 ⟨rfl, hb1⟩
    go_wp2
    go_ret
    exact ⟨rfl, old_trans e0 hb1⟩
end Go.Proofs.YtpjababikpakoaaGreatDoor

namespace Go.Proofs.YtpjababikpakoaaGreatDoor
open Go.ChangeShapes Go.WideShapes Go.ChangeAt Go.RowKit
set_option linter.unusedVariables false
set_option maxRecDepth 100000

set_option maxRecDepth 100000 in
set_option maxHeartbeats 16000000 in
theorem FnExactSpanHas_walk (wd : Int) (sm : Bool) (lo hi : Int) (b0 : Bool) (a0 : Option Addr) (len0 cap0 : Nat) (xs0 : List Int) (a0' : Option Addr) (len0' cap0' : Nat) (ys0 : List Int) (w : World) (wb0 : InI w a0 len0 cap0 xs0) (wb0' : InI w a0' len0' cap0' ys0) (hT : Tab w ∧ ET w) :
    Calls Tryz.prog 8 #[.int .i64 wd, .agg #[.bool sm, .int .i64 lo, .int .i64 hi], .agg #[.bool b0, .slice a0 len0 cap0, .slice a0' len0' cap0']] w fun e w' => e = .returned (.bool true) ∧ Below w.heap.size w w' := by
  obtain rfl := wb0.1
  obtain rfl := wb0'.1
  have hlen0 : xs0.length ≤ maxLen := Nat.le_trans wb0.2.1 wb0.2.2.1
  have hlen0' : ys0.length ≤ maxLen := Nat.le_trans wb0'.2.1 wb0'.2.2.1
  have SZ := hd (fun w' => lSzFrac b0 a0 a0' xs0.length ys0.length cap0 cap0' 1048576 w' hlen0 hlen0' (by omega) (by omega))
  unfold szF at SZ
  have hB : Below w.heap.size w ((w.alloc (.cells #[.bool sm, .int .i64 lo, .int .i64 hi] 46)).alloc (.cells #[.bool b0, .slice a0 xs0.length cap0, .slice a0' ys0.length cap0'] 30)) := old_alloc (old_alloc (Below.refl _ _) _) _
  by_cases c : (xs0.length : Int) + ys0.length ≤ 1048576
  case neg =>
    rw [if_neg c] at SZ
    go_enter Tryz.func8, Tryz.ntmps8
    go_wp2_with fail
    refine (SZ.out _).mono ?_
    rintro e w1 ⟨rfl, hb1⟩
    go_wp2
    go_ret
    exact ⟨rfl, old_trans hB hb1⟩
  rw [if_pos c] at SZ
  have hl0 : xs0.length ≤ 1048576 := by omega
  have hl0' : ys0.length ≤ 1048576 := by omega
  have c' : ¬ (1048576 - (xs0.length : Int) - (ys0.length : Int) < 0) := by omega
  have TF := hd (fun w' (h : Below w.heap.size w w') => toFracO b0 a0 a0' cap0 cap0' xs0 ys0 w' (wb0.old h) (wb0'.old h) hl0 hl0')
  have TO := hd (fun w' => toSpanH sm lo hi w')
  have S := hd (fun a b la lb ca cb w (h : InI w a la ca xs0) (h' : InI w b lb cb ys0) => sSpanHas wd sm lo hi b0 a b la lb ca cb xs0 ys0 w h h')
  have I := hd (fun a b la lb ca cb w (h : InI w a la ca xs0) (h' : InI w b lb cb ys0) (hT : Tab w) (hE : ET w) => iSpanHas wd sm lo hi b0 a b la lb ca cb xs0 ys0 w h h' hT hE)
  have hTT := hd hT
  generalize (sm && phB wd lo hi b0 xs0 ys0) = r at *
  have k0 : ((w.alloc (.cells #[.bool sm, .int .i64 lo, .int .i64 hi] 46)).alloc (.cells #[.bool b0, .slice a0 xs0.length cap0, .slice a0' ys0.length cap0'] 30)).cell? ⟨w.heap.size, 0, none⟩ = some (.bool sm) ∧ ((w.alloc (.cells #[.bool sm, .int .i64 lo, .int .i64 hi] 46)).alloc (.cells #[.bool b0, .slice a0 xs0.length cap0, .slice a0' ys0.length cap0'] 30)).cell? ⟨w.heap.size, 1, none⟩ = some (.int .i64 lo) ∧ ((w.alloc (.cells #[.bool sm, .int .i64 lo, .int .i64 hi] 46)).alloc (.cells #[.bool b0, .slice a0 xs0.length cap0, .slice a0' ys0.length cap0'] 30)).cell? ⟨w.heap.size, 2, none⟩ = some (.int .i64 hi) ∧ ((w.alloc (.cells #[.bool sm, .int .i64 lo, .int .i64 hi] 46)).alloc (.cells #[.bool b0, .slice a0 xs0.length cap0, .slice a0' ys0.length cap0'] 30)).cell? ⟨w.heap.size + 1, 0, none⟩ = some (.bool b0) ∧ ((w.alloc (.cells #[.bool sm, .int .i64 lo, .int .i64 hi] 46)).alloc (.cells #[.bool b0, .slice a0 xs0.length cap0, .slice a0' ys0.length cap0'] 30)).cell? ⟨w.heap.size + 1, 1, none⟩ = some (.slice a0 xs0.length cap0) ∧ ((w.alloc (.cells #[.bool sm, .int .i64 lo, .int .i64 hi] 46)).alloc (.cells #[.bool b0, .slice a0 xs0.length cap0, .slice a0' ys0.length cap0'] 30)).cell? ⟨w.heap.size + 1, 2, none⟩ = some (.slice a0' ys0.length cap0') := by simp
  clear c wb0 wb0' hT hlen0 hlen0'
  go_enter Tryz.func8, Tryz.ntmps8
  obtain ⟨m0, m1, m2, m3, m4, m5⟩ := id k0
  go_wp2_with fail
  refine (SZ.out _).mono ?_
  rintro e w1 ⟨rfl, hb1⟩
  replace hB := old_trans hB hb1
  have k1 : w1.cell? ⟨w.heap.size, 0, none⟩ = some (.bool sm) ∧ w1.cell? ⟨w.heap.size, 1, none⟩ = some (.int .i64 lo) ∧ w1.cell? ⟨w.heap.size, 2, none⟩ = some (.int .i64 hi) ∧ w1.cell? ⟨w.heap.size + 1, 0, none⟩ = some (.bool b0) ∧ w1.cell? ⟨w.heap.size + 1, 1, none⟩ = some (.slice a0 xs0.length cap0) ∧ w1.cell? ⟨w.heap.size + 1, 2, none⟩ = some (.slice a0' ys0.length cap0') := ⟨cell_later hb1 k0.1, cell_later hb1 k0.2.1, cell_later hb1 k0.2.2.1, cell_later hb1 k0.2.2.2.1, cell_later hb1 k0.2.2.2.2.1, cell_later hb1 k0.2.2.2.2.2⟩
  clear hb1 SZ m0 m1 m2 m3 m4 m5 k0
  obtain ⟨m0, m1, m2, m3, m4, m5⟩ := id k1
  have TO1 := hd (fun  w' (hS : w'.cell? ⟨w.heap.size, 0, none⟩ = some (.bool sm) ∧ w'.cell? ⟨w.heap.size, 1, none⟩ = some (.int .i64 lo) ∧ w'.cell? ⟨w.heap.size, 2, none⟩ = some (.int .i64 hi) ∧ w'.cell? ⟨w.heap.size + 1, 0, none⟩ = some (.bool b0) ∧ w'.cell? ⟨w.heap.size + 1, 1, none⟩ = some (.slice a0 xs0.length cap0) ∧ w'.cell? ⟨w.heap.size + 1, 2, none⟩ = some (.slice a0' ys0.length cap0')) (h : Below w1.heap.size w1 w') => (TO.out w').mono (fun e w'' (k : _ ∧ _) => (⟨k, ⟨cell_later k.2 hS.1, cell_later k.2 hS.2.1, cell_later k.2 hS.2.2.1, cell_later k.2 hS.2.2.2.1, cell_later k.2 hS.2.2.2.2.1, cell_later k.2 hS.2.2.2.2.2⟩⟩ : (_ ∧ _) ∧ (w''.cell? ⟨w.heap.size, 0, none⟩ = some (.bool sm) ∧ w''.cell? ⟨w.heap.size, 1, none⟩ = some (.int .i64 lo) ∧ w''.cell? ⟨w.heap.size, 2, none⟩ = some (.int .i64 hi) ∧ w''.cell? ⟨w.heap.size + 1, 0, none⟩ = some (.bool b0) ∧ w''.cell? ⟨w.heap.size + 1, 1, none⟩ = some (.slice a0 xs0.length cap0) ∧ w''.cell? ⟨w.heap.size + 1, 2, none⟩ = some (.slice a0' ys0.length cap0')))))
  have TF1 := hd (fun  w' (hS : w'.cell? ⟨w.heap.size, 0, none⟩ = some (.bool sm) ∧ w'.cell? ⟨w.heap.size, 1, none⟩ = some (.int .i64 lo) ∧ w'.cell? ⟨w.heap.size, 2, none⟩ = some (.int .i64 hi) ∧ w'.cell? ⟨w.heap.size + 1, 0, none⟩ = some (.bool b0) ∧ w'.cell? ⟨w.heap.size + 1, 1, none⟩ = some (.slice a0 xs0.length cap0) ∧ w'.cell? ⟨w.heap.size + 1, 2, none⟩ = some (.slice a0' ys0.length cap0')) (h : Below w1.heap.size w1 w') => (TF.out w' (old_trans hB h)).mono (fun e w'' (k : _ ∧ _) => (⟨k, ⟨cell_later k.2 hS.1, cell_later k.2 hS.2.1, cell_later k.2 hS.2.2.1, cell_later k.2 hS.2.2.2.1, cell_later k.2 hS.2.2.2.2.1, cell_later k.2 hS.2.2.2.2.2⟩⟩ : (_ ∧ _) ∧ (w''.cell? ⟨w.heap.size, 0, none⟩ = some (.bool sm) ∧ w''.cell? ⟨w.heap.size, 1, none⟩ = some (.int .i64 lo) ∧ w''.cell? ⟨w.heap.size, 2, none⟩ = some (.int .i64 hi) ∧ w''.cell? ⟨w.heap.size + 1, 0, none⟩ = some (.bool b0) ∧ w''.cell? ⟨w.heap.size + 1, 1, none⟩ = some (.slice a0 xs0.length cap0) ∧ w''.cell? ⟨w.heap.size + 1, 2, none⟩ = some (.slice a0' ys0.length cap0')))))
  have S1 := hd (fun a b la lb ca cb w' (i1 : InI w' a la ca xs0) (i2 : InI w' b lb cb ys0) (hS : w'.cell? ⟨w.heap.size, 0, none⟩ = some (.bool sm) ∧ w'.cell? ⟨w.heap.size, 1, none⟩ = some (.int .i64 lo) ∧ w'.cell? ⟨w.heap.size, 2, none⟩ = some (.int .i64 hi) ∧ w'.cell? ⟨w.heap.size + 1, 0, none⟩ = some (.bool b0) ∧ w'.cell? ⟨w.heap.size + 1, 1, none⟩ = some (.slice a0 xs0.length cap0) ∧ w'.cell? ⟨w.heap.size + 1, 2, none⟩ = some (.slice a0' ys0.length cap0')) (h : Below w1.heap.size w1 w') => (S.out a b la lb ca cb w' i1 i2).mono (fun e w'' (k : _ ∧ _) => (⟨k, ⟨cell_later k.2 hS.1, cell_later k.2 hS.2.1, cell_later k.2 hS.2.2.1, cell_later k.2 hS.2.2.2.1, cell_later k.2 hS.2.2.2.2.1, cell_later k.2 hS.2.2.2.2.2⟩⟩ : (_ ∧ _) ∧ (w''.cell? ⟨w.heap.size, 0, none⟩ = some (.bool sm) ∧ w''.cell? ⟨w.heap.size, 1, none⟩ = some (.int .i64 lo) ∧ w''.cell? ⟨w.heap.size, 2, none⟩ = some (.int .i64 hi) ∧ w''.cell? ⟨w.heap.size + 1, 0, none⟩ = some (.bool b0) ∧ w''.cell? ⟨w.heap.size + 1, 1, none⟩ = some (.slice a0 xs0.length cap0) ∧ w''.cell? ⟨w.heap.size + 1, 2, none⟩ = some (.slice a0' ys0.length cap0')))))
  go_wp2_with fail
  go_region_held3 (fun w' => w'.cell? ⟨w.heap.size, 0, none⟩ = some (.bool sm) ∧ w'.cell? ⟨w.heap.size, 1, none⟩ = some (.int .i64 lo) ∧ w'.cell? ⟨w.heap.size, 2, none⟩ = some (.int .i64 hi) ∧ w'.cell? ⟨w.heap.size + 1, 0, none⟩ = some (.bool b0) ∧ w'.cell? ⟨w.heap.size + 1, 1, none⟩ = some (.slice a0 xs0.length cap0) ∧ w'.cell? ⟨w.heap.size + 1, 2, none⟩ = some (.slice a0' ys0.length cap0')) (go_keep) (first | (go_at_call 30; refine (TO1.out _ (by assumption) (by repeat (first | exact Below.refl _ _ | refine Below.drew ?_ | refine old_trans ?_ (by assumption)))).mono ?_; rintro e w2 ⟨⟨rfl, hb2⟩, hc2⟩) | (go_at_call 19; refine (TF1.out _ (by assumption) (by repeat (first | exact Below.refl _ _ | refine Below.drew ?_ | refine old_trans ?_ (by assumption)))).mono ?_; rintro e w3 ⟨⟨⟨avP, cvP, avP', cvP', rfl, P, P', -⟩, hb3⟩, hc3⟩) | (go_at_call 29; refine (S1.out _ _ _ _ _ _ _ P.inI P'.inI (by assumption) (by repeat (first | exact Below.refl _ _ | refine Below.drew ?_ | refine old_trans ?_ (by assumption)))).mono ?_; rintro e w4 ⟨⟨rfl, hb4⟩, hc4⟩))
  replace hB := old_trans (old_trans (old_trans hB.drew hb2) hb3) hb4
  clear m0 m1 m2 m3 m4 m5 k1 TO1 TF1 S1 hb2 hb3 hb4 hc2 hc3 P P'
  obtain ⟨m0, m1, m2, m3, m4, m5⟩ := id hc4
  go_wp2_with fail
  refine (TF.out _ hB).mono ?_
  rintro e w5 ⟨⟨avX, cvX, avX', cvX', rfl, X, X', -⟩, hb5⟩
  replace hB := old_trans hB hb5
  have k5 : w5.cell? ⟨w.heap.size, 0, none⟩ = some (.bool sm) ∧ w5.cell? ⟨w.heap.size, 1, none⟩ = some (.int .i64 lo) ∧ w5.cell? ⟨w.heap.size, 2, none⟩ = some (.int .i64 hi) ∧ w5.cell? ⟨w.heap.size + 1, 0, none⟩ = some (.bool b0) ∧ w5.cell? ⟨w.heap.size + 1, 1, none⟩ = some (.slice a0 xs0.length cap0) ∧ w5.cell? ⟨w.heap.size + 1, 2, none⟩ = some (.slice a0' ys0.length cap0') := ⟨cell_later hb5 hc4.1, cell_later hb5 hc4.2.1, cell_later hb5 hc4.2.2.1, cell_later hb5 hc4.2.2.2.1, cell_later hb5 hc4.2.2.2.2.1, cell_later hb5 hc4.2.2.2.2.2⟩
  clear m0 m1 m2 m3 m4 m5 hc4 hb5
  have hal : Below w5.heap.size w5 (w5.alloc (.cells #[.bool b0, .slice avX xs0.length cvX, .slice avX' ys0.length cvX'] 24)) := old_alloc (Below.refl _ _) _
  have k6 : (w5.alloc (.cells #[.bool b0, .slice avX xs0.length cvX, .slice avX' ys0.length cvX'] 24)).cell? ⟨w.heap.size, 0, none⟩ = some (.bool sm) ∧ (w5.alloc (.cells #[.bool b0, .slice avX xs0.length cvX, .slice avX' ys0.length cvX'] 24)).cell? ⟨w.heap.size, 1, none⟩ = some (.int .i64 lo) ∧ (w5.alloc (.cells #[.bool b0, .slice avX xs0.length cvX, .slice avX' ys0.length cvX'] 24)).cell? ⟨w.heap.size, 2, none⟩ = some (.int .i64 hi) ∧ (w5.alloc (.cells #[.bool b0, .slice avX xs0.length cvX, .slice avX' ys0.length cvX'] 24)).cell? ⟨w.heap.size + 1, 0, none⟩ = some (.bool b0) ∧ (w5.alloc (.cells #[.bool b0, .slice avX xs0.length cvX, .slice avX' ys0.length cvX'] 24)).cell? ⟨w.heap.size + 1, 1, none⟩ = some (.slice a0 xs0.length cap0) ∧ (w5.alloc (.cells #[.bool b0, .slice avX xs0.length cvX, .slice avX' ys0.length cvX'] 24)).cell? ⟨w.heap.size + 1, 2, none⟩ = some (.slice a0' ys0.length cap0') ∧ (w5.alloc (.cells #[.bool b0, .slice avX xs0.length cvX, .slice avX' ys0.length cvX'] 24)).cell? ⟨w5.heap.size, 0, none⟩ = some (.bool b0) ∧ (w5.alloc (.cells #[.bool b0, .slice avX xs0.length cvX, .slice avX' ys0.length cvX'] 24)).cell? ⟨w5.heap.size, 1, none⟩ = some (.slice avX xs0.length cvX) ∧ (w5.alloc (.cells #[.bool b0, .slice avX xs0.length cvX, .slice avX' ys0.length cvX'] 24)).cell? ⟨w5.heap.size, 2, none⟩ = some (.slice avX' ys0.length cvX') := by
    obtain ⟨m0, m1, m2, m3, m4, m5⟩ := k5
    exact ⟨cell_later hal m0, cell_later hal m1, cell_later hal m2, cell_later hal m3, cell_later hal m4, cell_later hal m5, by simp, by simp, by simp⟩
  have X6 := X.later hal
  have X6' := X'.later hal
  replace hB := old_trans hB hal
  clear k5 X X'
  go_wp2_with fail
  generalize hW : w5.alloc (.cells #[.bool b0, .slice avX xs0.length cvX, .slice avX' ys0.length cvX'] 24) = w6 at *
  clear hW hal
  generalize w5.heap.size = NB at *
  obtain ⟨m0, m1, m2, m3, m4, m5, m6, m7, m8⟩ := id k6
  have TO6 := hd (fun  w' (hS : w'.cell? ⟨w.heap.size, 0, none⟩ = some (.bool sm) ∧ w'.cell? ⟨w.heap.size, 1, none⟩ = some (.int .i64 lo) ∧ w'.cell? ⟨w.heap.size, 2, none⟩ = some (.int .i64 hi) ∧ w'.cell? ⟨w.heap.size + 1, 0, none⟩ = some (.bool b0) ∧ w'.cell? ⟨w.heap.size + 1, 1, none⟩ = some (.slice a0 xs0.length cap0) ∧ w'.cell? ⟨w.heap.size + 1, 2, none⟩ = some (.slice a0' ys0.length cap0') ∧ w'.cell? ⟨NB, 0, none⟩ = some (.bool b0) ∧ w'.cell? ⟨NB, 1, none⟩ = some (.slice avX xs0.length cvX) ∧ w'.cell? ⟨NB, 2, none⟩ = some (.slice avX' ys0.length cvX')) (h : Below w6.heap.size w6 w') => (TO.out w').mono (fun e w'' (k : _ ∧ _) => (⟨k, ⟨cell_later k.2 hS.1, cell_later k.2 hS.2.1, cell_later k.2 hS.2.2.1, cell_later k.2 hS.2.2.2.1, cell_later k.2 hS.2.2.2.2.1, cell_later k.2 hS.2.2.2.2.2.1, cell_later k.2 hS.2.2.2.2.2.2.1, cell_later k.2 hS.2.2.2.2.2.2.2.1, cell_later k.2 hS.2.2.2.2.2.2.2.2⟩⟩ : (_ ∧ _) ∧ (w''.cell? ⟨w.heap.size, 0, none⟩ = some (.bool sm) ∧ w''.cell? ⟨w.heap.size, 1, none⟩ = some (.int .i64 lo) ∧ w''.cell? ⟨w.heap.size, 2, none⟩ = some (.int .i64 hi) ∧ w''.cell? ⟨w.heap.size + 1, 0, none⟩ = some (.bool b0) ∧ w''.cell? ⟨w.heap.size + 1, 1, none⟩ = some (.slice a0 xs0.length cap0) ∧ w''.cell? ⟨w.heap.size + 1, 2, none⟩ = some (.slice a0' ys0.length cap0') ∧ w''.cell? ⟨NB, 0, none⟩ = some (.bool b0) ∧ w''.cell? ⟨NB, 1, none⟩ = some (.slice avX xs0.length cvX) ∧ w''.cell? ⟨NB, 2, none⟩ = some (.slice avX' ys0.length cvX')))))
  have I6 := hd (fun  w' (hS : w'.cell? ⟨w.heap.size, 0, none⟩ = some (.bool sm) ∧ w'.cell? ⟨w.heap.size, 1, none⟩ = some (.int .i64 lo) ∧ w'.cell? ⟨w.heap.size, 2, none⟩ = some (.int .i64 hi) ∧ w'.cell? ⟨w.heap.size + 1, 0, none⟩ = some (.bool b0) ∧ w'.cell? ⟨w.heap.size + 1, 1, none⟩ = some (.slice a0 xs0.length cap0) ∧ w'.cell? ⟨w.heap.size + 1, 2, none⟩ = some (.slice a0' ys0.length cap0') ∧ w'.cell? ⟨NB, 0, none⟩ = some (.bool b0) ∧ w'.cell? ⟨NB, 1, none⟩ = some (.slice avX xs0.length cvX) ∧ w'.cell? ⟨NB, 2, none⟩ = some (.slice avX' ys0.length cvX')) (h : Below w6.heap.size w6 w') => (I.out _ _ _ _ _ _ w' (X6.later h).inI (X6'.later h).inI (hTT.out.1.old (old_trans hB h)) (hTT.out.2.old (old_trans hB h))).mono (fun e w'' (k : _ ∧ _) => (⟨k, ⟨cell_later k.2 hS.1, cell_later k.2 hS.2.1, cell_later k.2 hS.2.2.1, cell_later k.2 hS.2.2.2.1, cell_later k.2 hS.2.2.2.2.1, cell_later k.2 hS.2.2.2.2.2.1, cell_later k.2 hS.2.2.2.2.2.2.1, cell_later k.2 hS.2.2.2.2.2.2.2.1, cell_later k.2 hS.2.2.2.2.2.2.2.2⟩⟩ : (_ ∧ _) ∧ (w''.cell? ⟨w.heap.size, 0, none⟩ = some (.bool sm) ∧ w''.cell? ⟨w.heap.size, 1, none⟩ = some (.int .i64 lo) ∧ w''.cell? ⟨w.heap.size, 2, none⟩ = some (.int .i64 hi) ∧ w''.cell? ⟨w.heap.size + 1, 0, none⟩ = some (.bool b0) ∧ w''.cell? ⟨w.heap.size + 1, 1, none⟩ = some (.slice a0 xs0.length cap0) ∧ w''.cell? ⟨w.heap.size + 1, 2, none⟩ = some (.slice a0' ys0.length cap0') ∧ w''.cell? ⟨NB, 0, none⟩ = some (.bool b0) ∧ w''.cell? ⟨NB, 1, none⟩ = some (.slice avX xs0.length cvX) ∧ w''.cell? ⟨NB, 2, none⟩ = some (.slice avX' ys0.length cvX')))))
  go_region_held3 (fun w' => w'.cell? ⟨w.heap.size, 0, none⟩ = some (.bool sm) ∧ w'.cell? ⟨w.heap.size, 1, none⟩ = some (.int .i64 lo) ∧ w'.cell? ⟨w.heap.size, 2, none⟩ = some (.int .i64 hi) ∧ w'.cell? ⟨w.heap.size + 1, 0, none⟩ = some (.bool b0) ∧ w'.cell? ⟨w.heap.size + 1, 1, none⟩ = some (.slice a0 xs0.length cap0) ∧ w'.cell? ⟨w.heap.size + 1, 2, none⟩ = some (.slice a0' ys0.length cap0') ∧ w'.cell? ⟨NB, 0, none⟩ = some (.bool b0) ∧ w'.cell? ⟨NB, 1, none⟩ = some (.slice avX xs0.length cvX) ∧ w'.cell? ⟨NB, 2, none⟩ = some (.slice avX' ys0.length cvX')) (go_keep) (first | (go_at_call 30; refine (TO6.out _ (by assumption) (by repeat (first | exact Below.refl _ _ | refine Below.drew ?_ | refine old_trans ?_ (by assumption)))).mono ?_; rintro e w7 ⟨⟨rfl, hb7⟩, hc7⟩) | (go_at_call 31; refine (I6.out _ (by assumption) (by repeat (first | exact Below.refl _ _ | refine Below.drew ?_ | refine old_trans ?_ (by assumption)))).mono ?_; rintro e w8 ⟨⟨rfl, hb8⟩, hc8⟩))
  replace hB := old_trans (old_trans hB.drew hb7) hb8
  have X8 := (X6.later (old_trans (Below.refl _ w6).drew hb7)).later hb8
  have X8' := (X6'.later (old_trans (Below.refl _ w6).drew hb7)).later hb8
  clear m0 m1 m2 m3 m4 m5 m6 m7 m8 k6 TO6 I6 hb7 hb8 hc7 X6 X6' S I TO
  obtain ⟨m0, m1, m2, m3, m4, m5, m6, m7, m8⟩ := id hc8
  have TF8 := hd (fun  w' (hS : w'.cell? ⟨w.heap.size, 0, none⟩ = some (.bool sm) ∧ w'.cell? ⟨w.heap.size, 1, none⟩ = some (.int .i64 lo) ∧ w'.cell? ⟨w.heap.size, 2, none⟩ = some (.int .i64 hi) ∧ w'.cell? ⟨w.heap.size + 1, 0, none⟩ = some (.bool b0) ∧ w'.cell? ⟨w.heap.size + 1, 1, none⟩ = some (.slice a0 xs0.length cap0) ∧ w'.cell? ⟨w.heap.size + 1, 2, none⟩ = some (.slice a0' ys0.length cap0') ∧ w'.cell? ⟨NB, 0, none⟩ = some (.bool b0) ∧ w'.cell? ⟨NB, 1, none⟩ = some (.slice avX xs0.length cvX) ∧ w'.cell? ⟨NB, 2, none⟩ = some (.slice avX' ys0.length cvX')) (h : Below w8.heap.size w8 w') => (TF.out w' (old_trans hB h)).mono (fun e w'' (k : _ ∧ _) => (⟨k, ⟨cell_later k.2 hS.1, cell_later k.2 hS.2.1, cell_later k.2 hS.2.2.1, cell_later k.2 hS.2.2.2.1, cell_later k.2 hS.2.2.2.2.1, cell_later k.2 hS.2.2.2.2.2.1, cell_later k.2 hS.2.2.2.2.2.2.1, cell_later k.2 hS.2.2.2.2.2.2.2.1, cell_later k.2 hS.2.2.2.2.2.2.2.2⟩⟩ : (_ ∧ _) ∧ (w''.cell? ⟨w.heap.size, 0, none⟩ = some (.bool sm) ∧ w''.cell? ⟨w.heap.size, 1, none⟩ = some (.int .i64 lo) ∧ w''.cell? ⟨w.heap.size, 2, none⟩ = some (.int .i64 hi) ∧ w''.cell? ⟨w.heap.size + 1, 0, none⟩ = some (.bool b0) ∧ w''.cell? ⟨w.heap.size + 1, 1, none⟩ = some (.slice a0 xs0.length cap0) ∧ w''.cell? ⟨w.heap.size + 1, 2, none⟩ = some (.slice a0' ys0.length cap0') ∧ w''.cell? ⟨NB, 0, none⟩ = some (.bool b0) ∧ w''.cell? ⟨NB, 1, none⟩ = some (.slice avX xs0.length cvX) ∧ w''.cell? ⟨NB, 2, none⟩ = some (.slice avX' ys0.length cvX')))))
  have EQ8 := hd (fun a b ca cb n n' w' (hA : OI w' n a ca xs0) (hA' : OI w' n' b cb ys0) (hS : w'.cell? ⟨w.heap.size, 0, none⟩ = some (.bool sm) ∧ w'.cell? ⟨w.heap.size, 1, none⟩ = some (.int .i64 lo) ∧ w'.cell? ⟨w.heap.size, 2, none⟩ = some (.int .i64 hi) ∧ w'.cell? ⟨w.heap.size + 1, 0, none⟩ = some (.bool b0) ∧ w'.cell? ⟨w.heap.size + 1, 1, none⟩ = some (.slice a0 xs0.length cap0) ∧ w'.cell? ⟨w.heap.size + 1, 2, none⟩ = some (.slice a0' ys0.length cap0') ∧ w'.cell? ⟨NB, 0, none⟩ = some (.bool b0) ∧ w'.cell? ⟨NB, 1, none⟩ = some (.slice avX xs0.length cvX) ∧ w'.cell? ⟨NB, 2, none⟩ = some (.slice avX' ys0.length cvX')) (h : Below w8.heap.size w8 w') => (lEqF b0 avX avX' a b cvX cvX' ca cb _ _ n n' xs0 ys0 w' (X8.later h) (X8'.later h) hA hA').mono (fun e w'' (k : _ ∧ _) => (⟨k, ⟨cell_later k.2 hS.1, cell_later k.2 hS.2.1, cell_later k.2 hS.2.2.1, cell_later k.2 hS.2.2.2.1, cell_later k.2 hS.2.2.2.2.1, cell_later k.2 hS.2.2.2.2.2.1, cell_later k.2 hS.2.2.2.2.2.2.1, cell_later k.2 hS.2.2.2.2.2.2.2.1, cell_later k.2 hS.2.2.2.2.2.2.2.2⟩⟩ : (_ ∧ _) ∧ (w''.cell? ⟨w.heap.size, 0, none⟩ = some (.bool sm) ∧ w''.cell? ⟨w.heap.size, 1, none⟩ = some (.int .i64 lo) ∧ w''.cell? ⟨w.heap.size, 2, none⟩ = some (.int .i64 hi) ∧ w''.cell? ⟨w.heap.size + 1, 0, none⟩ = some (.bool b0) ∧ w''.cell? ⟨w.heap.size + 1, 1, none⟩ = some (.slice a0 xs0.length cap0) ∧ w''.cell? ⟨w.heap.size + 1, 2, none⟩ = some (.slice a0' ys0.length cap0') ∧ w''.cell? ⟨NB, 0, none⟩ = some (.bool b0) ∧ w''.cell? ⟨NB, 1, none⟩ = some (.slice avX xs0.length cvX) ∧ w''.cell? ⟨NB, 2, none⟩ = some (.slice avX' ys0.length cvX')))))
  go_wp2_with fail
  go_region_held3 (fun w' => w'.cell? ⟨w.heap.size, 0, none⟩ = some (.bool sm) ∧ w'.cell? ⟨w.heap.size, 1, none⟩ = some (.int .i64 lo) ∧ w'.cell? ⟨w.heap.size, 2, none⟩ = some (.int .i64 hi) ∧ w'.cell? ⟨w.heap.size + 1, 0, none⟩ = some (.bool b0) ∧ w'.cell? ⟨w.heap.size + 1, 1, none⟩ = some (.slice a0 xs0.length cap0) ∧ w'.cell? ⟨w.heap.size + 1, 2, none⟩ = some (.slice a0' ys0.length cap0') ∧ w'.cell? ⟨NB, 0, none⟩ = some (.bool b0) ∧ w'.cell? ⟨NB, 1, none⟩ = some (.slice avX xs0.length cvX) ∧ w'.cell? ⟨NB, 2, none⟩ = some (.slice avX' ys0.length cvX')) (go_keep) (first | (go_at_call 19; refine (TF8.out _ (by assumption) (by repeat (first | exact Below.refl _ _ | refine Below.drew ?_ | refine old_trans ?_ (by assumption)))).mono ?_; rintro e w9 ⟨⟨⟨avZ, cvZ, avZ', cvZ', rfl, Z, Z', -⟩, hb9⟩, hc9⟩) | (go_at_call 14; refine (EQ8.out _ _ _ _ _ _ _ Z Z' (by assumption) (by repeat (first | exact Below.refl _ _ | refine Below.drew ?_ | refine old_trans ?_ (by assumption)))).mono ?_; rintro e wa ⟨⟨rfl, hba⟩, hca⟩))
  all_goals
    replace hB := old_trans (old_trans hB.drew hb9) hba
    go_wp2
    go_ret
    exact ⟨rfl, hB⟩
set_option maxRecDepth 100000 in
theorem FnExactSpanHas_lifted (os : Os) (started : os.Started) (H : Type) (enc : TypeId × Value → H) :
    ReturnsInHanded {} Tryz.checked os 8 .any (fun w args => (Rows.fnExactSpanHasSpec.pre enc Tryz.prog Tryz.f8 [] false w args ∧ laidMetH Tryz.prog LHL w) ∧ sizedMet enc Tryz.prog Tryz.f8 (OpenSpec.ofChange Rows.fnExactSpanHasSpec) false w args)
      (Rows.fnExactSpanHasSpec.post enc Tryz.prog Tryz.f8 false true false false) := by
  refine returnsInHanded_of_change_and (C := Tryz.checked) (X := fun w _ => laidMetH Tryz.prog LHL w) (fun _ _ _ hh h => h.of_heap hh) LH_own started (by kernel_rfl) Tryz.func8
    (ChangeSpec.witness_shaped (enc := enc) (C := Tryz.checked) (os := os) (X := fun w _ => laidMetH Tryz.prog LHL w) false (World.doorLaid Tryz.prog LH_fuel os) #[.int .i64 0, .agg #[.bool false, .int .i64 0, .int .i64 0], .agg #[.bool false, .slice none 0 0, .slice none 0 0]] 8 rfl (LH_shaped os _) (by kernel_rfl) (by kernel_rfl) (by kernel_rfl) (LH_met os _)) ?_
  intro W base args ds gs before hval0 hW _ _ hL _
  have hval : ∀ (j : Nat) t v, Tryz.f8.params[j]? = some t → args[j]? = some v → Value.okWide Tryz.prog W .any base t v := hval0
  have hW' := hW
  obtain ⟨p, q, hA0, hV, rfl, hfz, hnd⟩ := hW
  have hA : DataW.TrodAll enc Tryz.prog W 0 (fun _ => true) true Tryz.f8.params.toList args.toList ds p := hA0
  rw [Tryz.params8] at hA hval
  obtain ⟨v0, vs0, d0, ds0, p0, q0, hargs, rfl, rfl, h0, r0⟩ := trodAll_cons hA
  obtain ⟨v1, vs1, d1, ds1, p1, q1, rfl, rfl, rfl, h1, r1⟩ := trodAll_cons r0
  obtain ⟨v2, vs2, d2, ds2, p2, q2, rfl, rfl, rfl, h2, r2⟩ := trodAll_cons r1
  obtain ⟨rfl, rfl, rfl⟩ := trodAll_nil r2
  obtain rfl : args = #[v0, v1, v2] := by cases args; simp_all
  obtain ⟨rfl, rfl⟩ := trodVars_none hV
  have k0 := h0
  have lt0 : ∀ x ∈ p0, x.block < W.heap.size := by obtain ⟨m, hm⟩ := k0; exact DataW.trod_lt m _ _ _ hm
  obtain ⟨wd, rfl, -, -, wf0⟩ := open_int Tryz.underlying3 (hval 0 3 v0 rfl rfl) h0
  have k1 := h1
  have lt1 : ∀ x ∈ p1, x.block < W.heap.size := by obtain ⟨m, hm⟩ := k1; exact DataW.trod_lt m _ _ _ hm
  obtain ⟨sm, lo, hi, rfl, -, -⟩ := open_lspan (hval 1 46 v1 rfl rfl) h1
  have k2 := h2
  have lt2 : ∀ x ∈ p2, x.block < W.heap.size := by obtain ⟨m, hm⟩ := k2; exact DataW.trod_lt m _ _ _ hm
  obtain ⟨b0, a0, len0, cap0, xs0, a0', len0', cap0', ys0, rfl, wb0, wb0'⟩ := open_lfrac (hval 2 30 v2 rfl rfl) h2
  clear hA0 hval0
  refine (FnExactSpanHas_walk wd sm lo hi b0 a0 len0 cap0 xs0 a0' len0' cap0' ys0 W wb0 wb0' (both_of hL)).mono fun e W' ⟨he, bel⟩ => ?_
  subst he
  exact ⟨_, rfl, _, _, _, [], _, [], hW', trodAll_mk1 (shut_bool Tryz.underlying4 _), (trodAll_cons_mk (Below.trod jf1 (by kernel_rfl) (of_decide_eq_true (by kernel_rfl)) k0 bel lt0) (trodAll_cons_mk (Below.trod jf1 (by kernel_rfl) (of_decide_eq_true (by kernel_rfl)) k1 bel lt1) (trodAll_cons_mk (Below.trod jf1 (by kernel_rfl) (of_decide_eq_true (by kernel_rfl)) k2 bel lt2) trodAll_mk0))), rfl, bel.frame _, fun h => by cases h⟩

theorem FnExactSpanHas_k0 : (Rows.fnExactSpanHasRow.wf (OpenSpec.ofChange Rows.fnExactSpanHasSpec)) = true := by kernel_rfl
theorem FnExactSpanHas_k3 : (Tryz.f8.params.all (Tryz.prog.readableRec ·)) = true := by kernel_rfl
theorem FnExactSpanHas_k4 : (namedTie Tryz.prog Rows.fnExactSpanHasRow.named Rows.fnExactSpanHasSpec.vars) = true := by kernel_rfl
theorem FnExactSpanHas_k5 : ((Rows.fnExactSpanHasRow.stops == [])) = true := by kernel_rfl
theorem FnExactSpanHas_k7 : ((Rows.fnExactSpanHasRow.knobs == [])) = true := by kernel_rfl
theorem FnExactSpanHas_k9 : ((Rows.fnExactSpanHasRow.inPlace == Tryz.prog.inPlace 8)) = true := by kernel_rfl
theorem FnExactSpanHas_k10 : ((Rows.fnExactSpanHasRow.unfollowed == Tryz.prog.unfollowed 8)) = true := by kernel_rfl
theorem FnExactSpanHas_k11 : ((Rows.fnExactSpanHasRow.recurses == Tryz.prog.recurses 8)) = true := by kernel_rfl
theorem FnExactSpanHas_k12 : ((Rows.fnExactSpanHasRow.named == Tryz.prog.varsNamed 8)) = true := by kernel_rfl
theorem FnExactSpanHas_k13 : ((Rows.fnExactSpanHasRow.maps == (Tryz.f8.params.toList ++ Rows.fnExactSpanHasSpec.plain.varTypes Tryz.prog).any (Tryz.prog.mapsRec ·))) = true := by kernel_rfl
theorem FnExactSpanHas_k14 : ((Rows.fnExactSpanHasRow.ifaces == (Tryz.f8.params.toList ++ Rows.fnExactSpanHasSpec.plain.varTypes Tryz.prog).any (Tryz.prog.ifacesRec ·))) = true := by kernel_rfl
theorem FnExactSpanHas_k15 : ((Rows.fnExactSpanHasRow.mapsOut == Tryz.prog.mapsAmong Tryz.f8.resultTypes.toList)) = true := by kernel_rfl
theorem FnExactSpanHas_k16 : ((Rows.fnExactSpanHasRow.loops == (Tryz.f8.params.toList ++ Rows.fnExactSpanHasSpec.plain.varTypes Tryz.prog).any (Tryz.prog.loopsFrom ·))) = true := by kernel_rfl
theorem FnExactSpanHas_k17 : ((Rows.fnExactSpanHasRow.wideKeys == (Tryz.f8.params.toList ++ Rows.fnExactSpanHasSpec.plain.varTypes Tryz.prog ++ Tryz.f8.resultTypes.toList).any (Tryz.prog.wideKeysFrom ·))) = true := by kernel_rfl
theorem FnExactSpanHas_k18 : (Rows.fnExactSpanHasSpec.vars.all (Tryz.prog.varReadable ·)) = true := by kernel_rfl
theorem FnExactSpanHas_k19 : (Tryz.f8.resultTypes.all (fun t => Tryz.prog.readableRec t && decide (t < Tryz.prog.types.size))) = true := by kernel_rfl
theorem FnExactSpanHas_k20 : ((Rows.fnExactSpanHasRow.ifacesOut == Tryz.f8.resultTypes.toList.any (Tryz.prog.ifacesRec ·))) = true := by kernel_rfl
theorem FnExactSpanHas_k21 : ((Rows.fnExactSpanHasRow.loopsOut == Tryz.f8.resultTypes.toList.any (Tryz.prog.loopsFrom ·))) = true := by kernel_rfl
theorem FnExactSpanHas_k23 : (Rows.fnExactSpanHasRow.shortTexts.isNone) = true := by kernel_rfl
theorem FnExactSpanHas_k28 : ((Rows.fnExactSpanHasRow.kinds == (if Rows.fnExactSpanHasRow.domain.isEmpty then [] else Tryz.f8.params.toList.map fun t => match Tryz.prog.underlying t with | some (.int k) => some k | _ => none))) = true := by kernel_rfl
theorem FnExactSpanHas_k29 : ((Rows.fnExactSpanHasRow.pinned == Rows.fnExactSpanHasRow.pinnedBy)) = true := by kernel_rfl
theorem FnExactSpanHas_k30 : ((Rows.fnExactSpanHasRow.veiled == (Tryz.f8.params.toList ++ Rows.fnExactSpanHasSpec.plain.varTypes Tryz.prog ++ Tryz.f8.resultTypes.toList).any (Tryz.prog.veiledRec ·))) = true := by kernel_rfl
theorem FnExactSpanHas_k31 : (Rows.fnExactSpanHasRow.veiledFits Tryz.prog Tryz.f8.params.toList (Tryz.f8.params.toList ++ Rows.fnExactSpanHasSpec.plain.varTypes Tryz.prog ++ Tryz.f8.resultTypes.toList)) = true := by kernel_rfl
set_option maxRecDepth 100000 in
theorem FnExactSpanHas_closed : joinedFacts Tryz.prog 8 Tryz.f8 Rows.fnExactSpanHasSpec Rows.fnExactSpanHasRow = true := (and2 (and2 (and2 (and2 (and2 (and2 (and2 (and2 (and2 (and2 (and2 (and2 (and2 (and2 (and2 (and2 (and2 (and2 (and2 (and2 (and2 (and2 (and2 (and2 (and2 (and2 (and2 (and2 (and2 (and2 (and2 FnExactSpanHas_k0 jf1) jf2) FnExactSpanHas_k3) FnExactSpanHas_k4) FnExactSpanHas_k5) jf6) FnExactSpanHas_k7) jf8) FnExactSpanHas_k9) FnExactSpanHas_k10) FnExactSpanHas_k11) FnExactSpanHas_k12) FnExactSpanHas_k13) FnExactSpanHas_k14) FnExactSpanHas_k15) FnExactSpanHas_k16) FnExactSpanHas_k17) FnExactSpanHas_k18) FnExactSpanHas_k19) FnExactSpanHas_k20) FnExactSpanHas_k21) jf22) FnExactSpanHas_k23) jf24) jf25) jf26) jf27) FnExactSpanHas_k28) FnExactSpanHas_k29) FnExactSpanHas_k30) FnExactSpanHas_k31)
theorem FnExactSpanHas_row : Rows.FnExactSpanHasSaid :=
  OpenClaim.holds_of_wide 8 Tryz.f8 rfl rfl rfl rfl rfl rfl rfl ⟨rfl, rfl, rfl, rfl, rfl⟩ rfl rfl rfl rfl rfl (by kernel_rfl) Tryz.func8 FnExactSpanHas_closed
    (of_decide_eq_true (by kernel_rfl)) (by unfold Func.isWrapper; first | (rw [if_pos (by decide +kernel)]; kernel_rfl) | (rw [if_neg (by decide +kernel)]; exact ⟨rfl, rfl⟩))
    (fun os started H enc _ => FnExactSpanHas_lifted os started H enc)

theorem FnExactSpanHas_proved : Rows.FnExactSpanHasCardSaid :=
  Claim7.holds_tied_plain_at .later [] [.data, .data, .handle] true (true, "d48ad5c7555e276af5b1c612258beb3e89dc1ce490534c90b3196009b2b2ffd3") true
    FnExactSpanHas_row (fun _ h => by cases h) (by kernel_rfl) (fun _ h => by cases h) fnExactSpanHas_row_tie rfl ⟨rfl, rfl⟩ (by kernel_rfl) rfl
    (fun f fn hf hfn => by
      obtain rfl : f = 8 := Option.some.inj ((show Tryz.prog.funcNamed "loop.example/pinfold/laws.FnExactSpanHas" = some 8 by kernel_rfl).symm.trans hf) |>.symm
      obtain rfl : fn = Tryz.f8 := (Option.some.inj (Tryz.func8.symm.trans hfn)).symm
      exact ⟨by kernel_rfl, fun j t ht => by
        rw [Tryz.params8] at ht
        have hm : t ∈ [3, 46, 30] := by simpa using Array.mem_of_getElem? ht
        have hall : ([3, 46, 30].all fun u => !Tryz.prog.wantsStandIn u) = true := by kernel_rfl
        exact (show Tryz.prog.wantsStandIn t = false by simpa using List.all_eq_true.1 hall t hm)⟩)
    (by kernel_rfl)
end Go.Proofs.YtpjababikpakoaaGreatDoor
