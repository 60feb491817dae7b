/- One step of the program's search for a common divisor: two numbers with the same divisors in common, the second one less. Conditions: numbers, the first above the second, which is not 0. -/
import Derived.Test.YtpamnpdigoikoaaDoorVM
namespace Go.Proofs.YtpamnpdigoikoaaDoor
open Go.RowKit
set_option linter.unusedVariables false
set_option maxRecDepth 100000

theorem eqArr2f (a b c d : Int) (w : World) : (Op.equalIn 9999 109 (.agg #[.int .i64 a, .int .i64 b]) (.agg #[.int .i64 c, .int .i64 d])).run Tryd.prog w = .ok (a == c && b == d) w := by
  have u3 := Tryd.underlying3
  have a3 := Tryd.isAgg3
  have z3 := Tryd.sizeOf3
  rw [show (9999 : Nat) = 9998 + 1 from rfl, Op.equalIn]
  simp only [Sem.run_bind, run_underlying Tryd.underlying109, Result.andThen_ok]
  simp only [Std.Legacy.Range.forIn_eq_forIn_range', Std.Legacy.Range.size, Nat.sub_zero, Nat.add_sub_cancel, Nat.div_one, List.range'_succ, List.range'_zero, List.forIn_cons, List.forIn_nil]
  go_simp
  by_cases h1 : a = c <;> by_cases h2 : b = d <;> simp [h1, h2]
theorem eqArr4 (a b c d a' b' c' d' : Int) (w : World) : (Op.equalIn 10000 111 (.agg #[.int .i64 a, .int .i64 b, .int .i64 c, .int .i64 d]) (.agg #[.int .i64 a', .int .i64 b', .int .i64 c', .int .i64 d'])).run Tryd.prog w = .ok (a == a' && b == b' && (c == c' && d == d')) w := by
  have u3 := Tryd.underlying3
  have a3 := Tryd.isAgg3
  have z3 := Tryd.sizeOf3
  have u4 := Tryd.underlying109
  have a4 := Tryd.isAgg109
  have z4 := Tryd.sizeOf109
  rw [show (10000 : Nat) = 9999 + 1 from rfl, Op.equalIn]
  simp only [Sem.run_bind, run_underlying Tryd.underlying111, Result.andThen_ok]
  simp only [Std.Legacy.Range.forIn_eq_forIn_range', Std.Legacy.Range.size, Nat.sub_zero, Nat.add_sub_cancel, Nat.div_one, List.range'_succ, List.range'_zero, List.forIn_cons, List.forIn_nil]
  go_simp
  simp only [eqArr2f, Result.andThen_ok]
  cases h1 : (a == a' && b == b') <;> cases h2 : (c == c' && d == d') <;> simp
attribute [local go_sem] eqArr4

theorem gcd_int {A B X Y : Nat} {p0 p1 q0 q1 : Int} (h : ∀ A B : Int, Int.gcd (p0 * A + p1 * B) (q0 * A + q1 * B) = Int.gcd A B) (hX : p0 * (A : Int) + p1 * (B : Int) = (X : Int)) (hY : q0 * (A : Int) + q1 * (B : Int) = (Y : Int)) : Nat.gcd X Y = Nat.gcd A B := by
  have := h A B
  rw [hX, hY, Int.gcd_natCast_natCast, Int.gcd_natCast_natCast] at this
  exact this
/-- what the highest digits say of a number -/
theorem high_bd (A m : Nat) : (((A / 65536 ^ m : Nat) : Int) * ((65536 ^ m : Nat) : Int) ≤ (A : Int)) ∧ (A : Int) < (((A / 65536 ^ m : Nat) : Int) + 1) * ((65536 ^ m : Nat) : Int) := by
  have hP : 0 < 65536 ^ m := Nat.pow_pos (by omega)
  have h1 := Nat.div_mul_le_self A (65536 ^ m)
  have h2 : A < (A / 65536 ^ m + 1) * 65536 ^ m := by
    have := Nat.lt_div_mul_add (a := A) hP
    rw [Nat.add_mul]
    omega
  exact ⟨by exact_mod_cast h1, by exact_mod_cast h2⟩
/-- what a step brings, in numbers -/
theorem rests_nat {A B m : Nat} {p0 p1 q0 q1 : Int} (h : GoodRests ((A / 65536 ^ m : Nat) : Int) ((B / 65536 ^ m : Nat) : Int) p0 p1 q0 q1) (hn : ¬ (p0 = 1 ∧ p1 = 0 ∧ q0 = 0 ∧ q1 = 1)) (hA : 0 < A) (hB : 0 < B) :
    ∃ X Y : Nat, (A : Int) * p0 + (B : Int) * p1 = (X : Int) ∧ (A : Int) * q0 + (B : Int) * q1 = (Y : Int) ∧ X ≤ B ∧ Y < B ∧ Y < X ∧ Nat.gcd X Y = Nat.gcd A B ∧ (-16777216 ≤ p0 ∧ p0 ≤ 16777216) ∧ (-16777216 ≤ p1 ∧ p1 ≤ 16777216) ∧ (-16777216 ≤ q0 ∧ q0 ≤ 16777216) ∧ (-16777216 ≤ q1 ∧ q1 ≤ 16777216) := by
  rcases h with h | ⟨x, y, e, P0, P1, Q0, Q1, hL, l0, l1, g0, g1⟩
  · exact absurd h hn
  have a := high_bd A m
  have b := high_bd B m
  have hP : (0 : Int) < ((65536 ^ m : Nat) : Int) := by exact_mod_cast (Nat.pow_pos (by omega) : 0 < 65536 ^ m)
  obtain ⟨r1, r2, r3, r4, r5⟩ := hL.rests hP (Int.natCast_nonneg _) (Int.natCast_nonneg _) a.1 a.2 b.1 b.2 (by omega) (by omega) l0 l1 g0 g1
  have bd := hL.bd
  refine ⟨(p0 * A + p1 * B).toNat, (q0 * A + q1 * B).toNat, ?_, ?_, by omega, by omega, by omega, gcd_int hL.gc (by omega) (by omega), bd⟩
  · rw [Int.mul_comm _ p0, Int.mul_comm _ p1]; omega
  · rw [Int.mul_comm _ q0, Int.mul_comm _ q1]; omega
theorem lt48 {a : Nat} (h : a < 281474976710656) : ((a : Nat) : Int) < 281474976710656 := by omega
theorem three_lt {A m : Nat} (h : (natL A).length ≤ m + 3) : A / 65536 ^ m < 281474976710656 := by
  have h1 := natL_lt_pow A
  have h2 : 65536 ^ (natL A).length ≤ 65536 ^ m * 65536 ^ 3 := by rw [← Nat.pow_add]; exact Nat.pow_le_pow_right (by omega) (by omega)
  exact Nat.div_lt_of_lt_mul (Nat.lt_of_lt_of_le h1 h2)
theorem cell_lt {w : World} {b i : Nat} {v : Value} (h : w.cell? ⟨b, i, none⟩ = some v) : b < w.heap.size := by
  apply Nat.lt_of_not_le
  intro hn
  have e : w.heap[b]? = none := Array.getElem?_eq_none hn
  simp [World.cell?, e] at h
def valM (A B : Nat) (fa fb : Int) : Nat := ((A : Int) * fa + (B : Int) * fb).toNat
def MixC (A B : Nat) (fa fb : Int) : Prop := ∃ X : Nat, (A : Int) * fa + (B : Int) * fb = (X : Int) ∧ X ≤ B ∧ (-16777216 ≤ fa ∧ fa ≤ 16777216) ∧ (-16777216 ≤ fb ∧ fb ≤ 16777216)
theorem MixC.bdA {A B : Nat} {fa fb : Int} (h : MixC A B fa fb) : -16777216 ≤ fa ∧ fa ≤ 16777216 := by obtain ⟨X, -, -, h, -⟩ := h; exact h
theorem MixC.bdB {A B : Nat} {fa fb : Int} (h : MixC A B fa fb) : -16777216 ≤ fb ∧ fb ≤ 16777216 := by obtain ⟨X, -, -, -, h⟩ := h; exact h
theorem MixC.eq {A B : Nat} {fa fb : Int} (h : MixC A B fa fb) : (A : Int) * fa + (B : Int) * fb = (valM A B fa fb : Int) := by obtain ⟨X, h, -⟩ := h; unfold valM; rw [h]; rfl
theorem MixC.le {A B : Nat} {fa fb : Int} (h : MixC A B fa fb) : valM A B fa fb ≤ B := by obtain ⟨X, h, k, -⟩ := h; unfold valM; rw [h]; exact k
set_option maxHeartbeats 4000000 in
theorem iNearer0 (a b : Option Addr) (ca cb : Nat) (A B m : Nat) (w : World) (hA : InI w a (natL A).length ca (natL A)) (hB : InI w b (natL B).length cb (natL B)) (hlA : (natL A).length ≤ 65536) (hAB : B < A) (hB0 : 0 < B)
    (hm : (3 < (natL A).length ∧ (natL A).length = m + 3) ∨ ((natL A).length ≤ 3 ∧ m = 0)) :
    Calls Tryd.prog 74 #[.slice a (natL A).length ca, .slice b (natL B).length cb] w fun e w' => (∃ (u v : Nat) (av : Option Addr) (cv : Nat) (av2 : Option Addr) (cv2 : Nat), e = .returned (.tuple #[.slice av (natL u).length cv, .slice av2 (natL v).length cv2]) ∧ InI w' av (natL u).length cv (natL u) ∧ InI w' av2 (natL v).length cv2 (natL v) ∧ Nat.gcd u v = Nat.gcd A B ∧ v < B ∧ v < u ∧ u ≤ B) ∧ Below w.heap.size w w' := by
  have hlB : (natL B).length ≤ (natL A).length := natL_le (Nat.le_of_lt hAB)
  have hl3 : (natL A).length ≤ m + 3 := by omega
  have hm2 : m ≤ 65536 := by omega
  have T1 := hd (iThree a _ ca _ m w hA (digs_natL A) hl3 hlA hm2)
  have T2 := hd (fun w' (h : Below w.heap.size w w') => iThree b _ cb _ m w' (hB.old h) (digs_natL B) (by omega) (by omega) hm2)
  rw [val_natL] at T1 T2
  have S := hd (fun w' => iSure ((A / 65536 ^ m : Nat) : Int) ((B / 65536 ^ m : Nat) : Int) w' ⟨Int.natCast_nonneg _, lt48 (three_lt hl3)⟩ ⟨Int.natCast_nonneg _, lt48 (three_lt (show (natL B).length ≤ m + 3 by omega))⟩ (Int.ofNat_le.2 (Nat.div_le_div_right (Nat.le_of_lt hAB))))
  have NR := hd iNoRests
  have DV := hd (fun w' (h : Below w.heap.size w w') => iDivided a b _ _ ca cb _ _ w' (hA.old h) (hB.old h) (digs_natL A) (digs_natL B) (topped_natL B) hlA (by omega) (natL_length_pos hB0))
  rw [val_natL, val_natL] at DV
  have hgR := hd (fun p0 p1 q0 q1 h hn => rests_nat (A := A) (B := B) (m := m) (p0 := p0) (p1 := p1) (q0 := q0) (q1 := q1) h hn (by omega) hB0)
  have MX := hd (fun w' (h : Below w.heap.size w w') fa fb (X : Nat) (ha : -16777216 ≤ fa ∧ fa ≤ 16777216) (hb : -16777216 ≤ fb ∧ fb ≤ 16777216) (hX : (A : Int) * fa + (B : Int) * fb = (X : Int)) (hXB : X ≤ B) => iMixed a b _ _ ca cb _ _ fa fb 16777216 w' (hA.old h) (hB.old h) (digs_natL A) (digs_natL B) (by omega) (by omega) (by omega) (by omega) ha hb (X : Int) (by rw [val_natL, val_natL]; exact hX.symm) (Int.natCast_nonneg _) (by
    have h1 := natL_lt_pow B
    have h2 : 65536 ^ (natL B).length ≤ 65536 ^ (max (natL A).length (natL B).length + 1) := Nat.pow_le_pow_right (by omega) (by omega)
    have h3 : X < 65536 ^ (max (natL A).length (natL B).length + 1) := by omega
    have h4 := pow_cast (max (natL A).length (natL B).length + 1)
    omega))
  simp only [Int.toNat_natCast] at MX
  have hBin := hd hB
  have hAin := hd hA
  have hmod := hd (Nat.mod_lt A hB0)
  have hgcd : Hid (Nat.gcd B (A % B) = Nat.gcd A B) := by
    show _ = _
    rw [Nat.gcd_comm A B, Nat.gcd_rec B A, Nat.gcd_comm (A % B) B]
  generalize ((A / 65536 ^ m : Nat) : Int) = x0 at *
  generalize ((B / 65536 ^ m : Nat) : Int) = y0 at *
  clear hl3
  have hlA0 : (0 : Int) ≤ ((natL A).length : Int) := by omega
  have hlA1 : ((natL A).length : Int) ≤ 65536 := by omega
  generalize hM : (m : Int) = M at *
  have hM2 : M = max (((natL A).length : Int) - 3) 0 := by omega
  clear hM hm hlB hm2 hlA
  generalize (natL A).length = la at *
  subst hM2
  go_enter Tryd.func74, Tryd.ntmps74
  go_wp2_with fail
  refine T1.out.mono ?_
  rintro e w1 ⟨rfl, hw⟩
  obtain rfl : w = w1 := hw.symm
  clear hw
  go_wp2_with fail
  refine (T2.out _ (Below.refl _ _)).mono ?_
  rintro e w1 ⟨rfl, hw⟩
  obtain rfl : w = w1 := hw.symm
  clear hw
  go_wp2_with fail
  refine (S.out _).mono ?_
  rintro e w1 ⟨⟨p0, p1, q0, q1, rfl, hG⟩, hb1⟩
  have L5 := Loc4.new w1 p0 p1 q0 q1 111
  have hB2 := old_alloc hb1 (.cells #[.int .i64 p0, .int .i64 p1, .int .i64 q0, .int .i64 q1] 111)
  have hgR2 := hd (hgR.out p0 p1 q0 q1 hG)
  clear T1 T2 S hgR hG
  go_wp2_with fail
  generalize hrb : w1.heap.size = rb at *
  generalize w1.alloc (.cells #[.int .i64 p0, .int .i64 p1, .int .i64 q0, .int .i64 q1] 111) = w2 at *
  obtain ⟨s1, ⟨s2, s3, s4, s5⟩, s6, s7, s8, s9⟩ := L5
  clear hb1 hrb s6 s7 s8 s9
  have NR2 := hd (fun w' (h : w'.cell? ⟨rb, 0, none⟩ = some (.int .i64 p0) ∧ w'.cell? ⟨rb, 1, none⟩ = some (.int .i64 p1) ∧ w'.cell? ⟨rb, 2, none⟩ = some (.int .i64 q0) ∧ w'.cell? ⟨rb, 3, none⟩ = some (.int .i64 q1)) => (NR.out w').mono (fun e w'' (k : _ ∧ _) => (⟨k, by
    have hl : rb < w'.heap.size := cell_lt h.1
    exact ⟨(k.2.cell (p := ⟨rb, 0, none⟩) hl).trans h.1, (k.2.cell (p := ⟨rb, 1, none⟩) hl).trans h.2.1, (k.2.cell (p := ⟨rb, 2, none⟩) hl).trans h.2.2.1, (k.2.cell (p := ⟨rb, 3, none⟩) hl).trans h.2.2.2⟩⟩ : (_ ∧ _) ∧ (w''.cell? ⟨rb, 0, none⟩ = some (.int .i64 p0) ∧ w''.cell? ⟨rb, 1, none⟩ = some (.int .i64 p1) ∧ w''.cell? ⟨rb, 2, none⟩ = some (.int .i64 q0) ∧ w''.cell? ⟨rb, 3, none⟩ = some (.int .i64 q1)))))
  go_region_held3 (fun w' => w'.cell? ⟨rb, 0, none⟩ = some (.int .i64 p0) ∧ w'.cell? ⟨rb, 1, none⟩ = some (.int .i64 p1) ∧ w'.cell? ⟨rb, 2, none⟩ = some (.int .i64 q0) ∧ w'.cell? ⟨rb, 3, none⟩ = some (.int .i64 q1)) (go_keep) (first | (go_at_call 98; refine (NR2.out _ (by assumption)).mono ?_; rintro e w3 ⟨⟨rfl, hb3⟩, hc3⟩))
  clear NR NR2 s2 s3 s4 s5
  have hB3 := old_trans hB2.drew hb3
  generalize hbb : (p0 == 1 && p1 == 0 && (q0 == 0 && q1 == 1)) = bb
  cases bb
  rotate_left
  · clear hgR2 MX hbb
    go_wp2_with fail
    refine (DV.out _ hB3).mono ?_
    rintro e w4 ⟨⟨av, cv, rfl, hO⟩, hb4⟩
    go_wp2
    go_ret2
    exact ⟨⟨B, A % B, b, cb, av, cv, rfl, hBin.out.old (old_trans hB3 hb4), hO.inI, hgcd.out, hmod.out, hmod.out, Nat.le_refl _⟩, old_trans hB3 hb4⟩
  · have hid : ¬ (p0 = 1 ∧ p1 = 0 ∧ q0 = 0 ∧ q1 = 1) := by
      rintro ⟨rfl, rfl, rfl, rfl⟩
      simp at hbb
    clear hbb
    obtain ⟨X, Y, eX, eY, hX, hY, hYX, hg, b0, b1, b2, b3⟩ := hgR2.out hid
    have M1 : MixC A B p0 p1 := ⟨X, eX, hX, b0, b1⟩
    have M2 : MixC A B q0 q1 := ⟨Y, eY, Nat.le_of_lt hY, b2, b3⟩
    have v1 : Hid (valM A B p0 p1 = X) := by show valM A B p0 p1 = X; unfold valM; rw [eX, Int.toNat_natCast]
    have v2 : Hid (valM A B q0 q1 = Y) := by show valM A B q0 q1 = Y; unfold valM; rw [eY, Int.toNat_natCast]
    have hfin : Hid (Nat.gcd X Y = Nat.gcd A B ∧ Y < B ∧ Y < X ∧ X ≤ B) := ⟨hg, hY, hYX, hX⟩
    have MY := hd (fun w' fa fb (hS : w'.cell? ⟨rb, 0, none⟩ = some (.int .i64 p0) ∧ w'.cell? ⟨rb, 1, none⟩ = some (.int .i64 p1) ∧ w'.cell? ⟨rb, 2, none⟩ = some (.int .i64 q0) ∧ w'.cell? ⟨rb, 3, none⟩ = some (.int .i64 q1)) (h : Below w.heap.size w w') (hC : MixC A B fa fb) => (MX.out w' h fa fb (valM A B fa fb) hC.bdA hC.bdB hC.eq hC.le).mono (fun e w'' (k : _ ∧ _) => (⟨k.1, k.2, by
      have hl : rb < w'.heap.size := cell_lt hS.1
      exact ⟨(k.2.cell (p := ⟨rb, 0, none⟩) hl).trans hS.1, (k.2.cell (p := ⟨rb, 1, none⟩) hl).trans hS.2.1, (k.2.cell (p := ⟨rb, 2, none⟩) hl).trans hS.2.2.1, (k.2.cell (p := ⟨rb, 3, none⟩) hl).trans hS.2.2.2⟩⟩ : _ ∧ _ ∧ (w''.cell? ⟨rb, 0, none⟩ = some (.int .i64 p0) ∧ w''.cell? ⟨rb, 1, none⟩ = some (.int .i64 p1) ∧ w''.cell? ⟨rb, 2, none⟩ = some (.int .i64 q0) ∧ w''.cell? ⟨rb, 3, none⟩ = some (.int .i64 q1)))))
    clear hgR2 MX DV eX eY hX hY hYX hg b0 b1 b2 b3 hid hgcd hmod hAB hB0
    go_wp2_with fail
    go_region_held3 (fun w' => w'.cell? ⟨rb, 0, none⟩ = some (.int .i64 p0) ∧ w'.cell? ⟨rb, 1, none⟩ = some (.int .i64 p1) ∧ w'.cell? ⟨rb, 2, none⟩ = some (.int .i64 q0) ∧ w'.cell? ⟨rb, 3, none⟩ = some (.int .i64 q1)) (go_keep) (first | (go_at_call 94; refine (MY.out _ _ _ (by assumption) (by repeat (first | exact hB3 | refine Below.drew ?_ | refine old_trans ?_ (by assumption))) (by assumption)).mono ?_; rintro e w4 ⟨⟨av, cv, rfl, hO⟩, hb4, hc4⟩))
    all_goals
      go_wp2
      go_ret2
      have h9 : Nat.gcd (valM A B p0 p1) (valM A B q0 q1) = Nat.gcd A B ∧ valM A B q0 q1 < B ∧ valM A B q0 q1 < valM A B p0 p1 ∧ valM A B p0 p1 ≤ B := by
        rw [show valM A B p0 p1 = X from v1.out, show valM A B q0 q1 = Y from v2.out]
        exact hfin.out
      refine ⟨⟨valM A B p0 p1, valM A B q0 q1, _, _, _, _, rfl, ?_, ?_, h9⟩, (by repeat (first | exact hB3 | refine Below.drew ?_ | refine old_trans ?_ (by assumption)))⟩
      · first | exact OI.inI (by assumption) | exact OI.inI (OI.later (by assumption) (by assumption))
      · first | exact OI.inI (by assumption) | exact OI.inI (OI.later (by assumption) (by assumption))
theorem iNearer (a b : Option Addr) (ca cb : Nat) (A B : Nat) (w : World) (hA : InI w a (natL A).length ca (natL A)) (hB : InI w b (natL B).length cb (natL B)) (hlA : (natL A).length ≤ 65536) (hAB : B < A) (hB0 : 0 < B) :
    Calls Tryd.prog 74 #[.slice a (natL A).length ca, .slice b (natL B).length cb] w fun e w' => (∃ (u v : Nat) (av : Option Addr) (cv : Nat) (av2 : Option Addr) (cv2 : Nat), e = .returned (.tuple #[.slice av (natL u).length cv, .slice av2 (natL v).length cv2]) ∧ InI w' av (natL u).length cv (natL u) ∧ InI w' av2 (natL v).length cv2 (natL v) ∧ Nat.gcd u v = Nat.gcd A B ∧ v < B ∧ v < u ∧ u ≤ B) ∧ Below w.heap.size w w' := by
  by_cases h : 3 < (natL A).length
  · exact iNearer0 a b ca cb A B ((natL A).length - 3) w hA hB hlA hAB hB0 (by omega)
  · exact iNearer0 a b ca cb A B 0 w hA hB hlA hAB hB0 (by omega)
end Go.Proofs.YtpamnpdigoikoaaDoor
