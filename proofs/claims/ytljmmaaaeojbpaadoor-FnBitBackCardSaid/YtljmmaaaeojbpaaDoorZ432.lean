/- The contract of the program's BitMake at width 32, of every size above 0 and every power that it takes, where the library's table lies as its text lays it; nothing that was there is written. -/
import Derived.Test.YtljmmaaaeojbpaaDoorZ0
import Derived.Test.YtljmmaaaeojbpaaDoorZ2
import Derived.Test.YtljmmaaaeojbpaaDoorW2
namespace Go.Proofs.YtljmmaaaeojbpaaDoor
open Go.RowKit
set_option linter.unusedVariables false

set_option maxHeartbeats 1000000 in
theorem mk_32_fail_a (z : Nat) (P sp ln S O : Int) (w : World) (hT : Tab w) (s1 : 0 < S) (s2 : S < 18446744073709551616) (o1 : 0 < O) (o2 : O < 18446744073709551616) (p1 : -3000 ≤ P) (p2 : P ≤ 3000) (z1 : (z : Int) ≤ 63) (l0 : 0 ≤ ln) (l1 : ln ≤ 64) (q1 : -64 ≤ sp) (q2 : sp ≤ 64) (r1 : S / 2 ^ z = O) (r2 : 24 - ln = sp) (c1 : decide (sp < 0) = true)
    (HN : Hid (∀ w, Tab w → Calls Tryd.prog 30 #[.int .u64 S] w fun e w' => e = .returned (.int .i64 (z : Int)) ∧ w' = w)) (HL : Hid (∀ w, Calls Tryd.prog 31 #[.int .u64 O] w fun e w' => e = .returned (.int .i64 ln) ∧ w' = w)) :
    Calls Tryd.prog 27 #[.iface 58 (.agg #[]), .int .u64 S, .int .i64 (P - (z : Int))] w fun e w' => e = .returned (.tuple #[.int .i64 0, .bool false]) ∧ Below w.heap.size w w' := by
  have m1 := meth_top_32
  have m2 := meth_fraction_32
  have m3 := meth_least_32
  go_enter Tryd.func27, Tryd.ntmps27
  go_wp2_with (first | (go_at_call 30; refine (HN.out _ hT).mono ?_; rintro e w1 ⟨rfl, rfl⟩) | (go_at_call 31; refine (HL.out _).mono ?_; rintro e w1 ⟨rfl, rfl⟩) | go_in)
  go_ret2
  exact ⟨rfl, (by repeat (first | exact Below.refl _ _ | refine Below.drew ?_ | refine Below.setCell ?_ (by simp) _ | refine old_alloc ?_ _ | refine old_trans ?_ (by assumption)))⟩

set_option maxHeartbeats 1000000 in
theorem mk_32_fail_b (z : Nat) (P sp ln S O : Int) (w : World) (hT : Tab w) (s1 : 0 < S) (s2 : S < 18446744073709551616) (o1 : 0 < O) (o2 : O < 18446744073709551616) (p1 : -3000 ≤ P) (p2 : P ≤ 3000) (z1 : (z : Int) ≤ 63) (l0 : 0 ≤ ln) (l1 : ln ≤ 64) (q1 : -64 ≤ sp) (q2 : sp ≤ 64) (r1 : S / 2 ^ z = O) (r2 : 24 - ln = sp) (c1 : decide (sp < 0) = false) (c2 : decide (P < -149) = true)
    (HN : Hid (∀ w, Tab w → Calls Tryd.prog 30 #[.int .u64 S] w fun e w' => e = .returned (.int .i64 (z : Int)) ∧ w' = w)) (HL : Hid (∀ w, Calls Tryd.prog 31 #[.int .u64 O] w fun e w' => e = .returned (.int .i64 ln) ∧ w' = w)) :
    Calls Tryd.prog 27 #[.iface 58 (.agg #[]), .int .u64 S, .int .i64 (P - (z : Int))] w fun e w' => e = .returned (.tuple #[.int .i64 0, .bool false]) ∧ Below w.heap.size w w' := by
  have m1 := meth_top_32
  have m2 := meth_fraction_32
  have m3 := meth_least_32
  go_enter Tryd.func27, Tryd.ntmps27
  go_wp2_with (first | (go_at_call 30; refine (HN.out _ hT).mono ?_; rintro e w1 ⟨rfl, rfl⟩) | (go_at_call 31; refine (HL.out _).mono ?_; rintro e w1 ⟨rfl, rfl⟩) | go_in)
  go_ret2
  exact ⟨rfl, (by repeat (first | exact Below.refl _ _ | refine Below.drew ?_ | refine Below.setCell ?_ (by simp) _ | refine old_alloc ?_ _ | refine old_trans ?_ (by assumption)))⟩

set_option maxHeartbeats 1000000 in
theorem mk_32_fail_c (z m : Nat) (P sp ln S O Dm : Int) (w : World) (hT : Tab w) (s1 : 0 < S) (s2 : S < 18446744073709551616) (o1 : 0 < O) (o2 : O < 18446744073709551616) (p1 : -3000 ≤ P) (p2 : P ≤ 3000) (z1 : (z : Int) ≤ 63) (l0 : 0 ≤ ln) (l1 : ln ≤ 64) (q1 : -64 ≤ sp) (q2 : sp ≤ 64) (r1 : S / 2 ^ z = O) (r2 : 24 - ln = sp) (r3 : min sp (P + 149) = (m : Int)) (m1 : (m : Int) ≤ 64) (m2 : (m : Int) ≤ P + 149) (r4 : IntKind.u64.wrap (O * 2 ^ m) = Dm) (d0 : 0 < Dm) (d1 : Dm < 16777216) (c1 : decide (sp < 0) = false) (c2 : decide (P < -149) = false) (c3 : decide (255 ≤ P - (m : Int) + 149 + 1) = true)
    (HN : Hid (∀ w, Tab w → Calls Tryd.prog 30 #[.int .u64 S] w fun e w' => e = .returned (.int .i64 (z : Int)) ∧ w' = w)) (HL : Hid (∀ w, Calls Tryd.prog 31 #[.int .u64 O] w fun e w' => e = .returned (.int .i64 ln) ∧ w' = w)) :
    Calls Tryd.prog 27 #[.iface 58 (.agg #[]), .int .u64 S, .int .i64 (P - (z : Int))] w fun e w' => e = .returned (.tuple #[.int .i64 0, .bool false]) ∧ Below w.heap.size w w' := by
  have m1 := meth_top_32
  have m2 := meth_fraction_32
  have m3 := meth_least_32
  go_enter Tryd.func27, Tryd.ntmps27
  go_wp2_with (first | (go_at_call 30; refine (HN.out _ hT).mono ?_; rintro e w1 ⟨rfl, rfl⟩) | (go_at_call 31; refine (HL.out _).mono ?_; rintro e w1 ⟨rfl, rfl⟩) | go_in)
  go_ret2
  exact ⟨rfl, (by repeat (first | exact Below.refl _ _ | refine Below.drew ?_ | refine Below.setCell ?_ (by simp) _ | refine old_alloc ?_ _ | refine old_trans ?_ (by assumption)))⟩

set_option maxHeartbeats 1000000 in
theorem mk_32_ok (z m : Nat) (P sp ln S O Dm : Int) (w : World) (hT : Tab w) (s1 : 0 < S) (s2 : S < 18446744073709551616) (o1 : 0 < O) (o2 : O < 18446744073709551616) (p1 : -3000 ≤ P) (p2 : P ≤ 3000) (z1 : (z : Int) ≤ 63) (l0 : 0 ≤ ln) (l1 : ln ≤ 64) (q1 : -64 ≤ sp) (q2 : sp ≤ 64) (r1 : S / 2 ^ z = O) (r2 : 24 - ln = sp) (r3 : min sp (P + 149) = (m : Int)) (m1 : (m : Int) ≤ 64) (m2 : (m : Int) ≤ P + 149) (r4 : IntKind.u64.wrap (O * 2 ^ m) = Dm) (d0 : 0 < Dm) (d1 : Dm < 16777216) (c1 : decide (sp < 0) = false) (c2 : decide (P < -149) = false) (c3 : decide (255 ≤ P - (m : Int) + 149 + 1) = false) (c4 : P - (m : Int) + 149 + 1 < 255)
    (HN : Hid (∀ w, Tab w → Calls Tryd.prog 30 #[.int .u64 S] w fun e w' => e = .returned (.int .i64 (z : Int)) ∧ w' = w)) (HL : Hid (∀ w, Calls Tryd.prog 31 #[.int .u64 O] w fun e w' => e = .returned (.int .i64 ln) ∧ w' = w)) :
    Calls Tryd.prog 27 #[.iface 58 (.agg #[]), .int .u64 S, .int .i64 (P - (z : Int))] w fun e w' => e = .returned (.tuple #[.int .i64 ((P - (m : Int) + 149) * 8388608 + Dm), .bool true]) ∧ Below w.heap.size w w' := by
  have m1 := meth_top_32
  have m2 := meth_fraction_32
  have m3 := meth_least_32
  go_enter Tryd.func27, Tryd.ntmps27
  go_wp2_with (first | (go_at_call 30; refine (HN.out _ hT).mono ?_; rintro e w1 ⟨rfl, rfl⟩) | (go_at_call 31; refine (HL.out _).mono ?_; rintro e w1 ⟨rfl, rfl⟩) | go_in)
  go_ret2
  exact ⟨rfl, (by repeat (first | exact Below.refl _ _ | refine Below.drew ?_ | refine Below.setCell ?_ (by simp) _ | refine old_alloc ?_ _ | refine old_trans ?_ (by assumption)))⟩

theorem mkSize_32 (o z : Nat) (P : Int) (w : World) (hT : Tab w) (ho : o % 2 = 1) (hx : o * 2 ^ z < 2 ^ 64) (p1 : -3000 ≤ P) (p2 : P ≤ 3000) (zz : z ≤ 63) :
    Calls Tryd.prog 27 #[.iface 58 (.agg #[]), .int .u64 ((o * 2 ^ z : Nat) : Int), .int .i64 (P - (z : Int))] w fun e w' =>
      MkPost (-149) 8388608 255 P (min (23 - (o.log2 : Int)) (P - (-149))) ((o * 2 ^ (min (23 - (o.log2 : Int)) (P - (-149))).toNat : Nat) : Int) false e ∧ Below w.heap.size w w' := by
  have hz := Nat.two_pow_pos z
  have hpos : 0 < o * 2 ^ z := Nat.mul_pos (by omega) hz
  have ho0 : o ≠ 0 := by omega
  have hle : o ≤ o * 2 ^ z := Nat.le_mul_of_pos_right _ hz
  have hlog : o.log2 < 64 := (Nat.log2_lt ho0).2 (by omega)
  have HN : Hid (∀ w, Tab w → Calls Tryd.prog 30 #[.int .u64 ((o * 2 ^ z : Nat) : Int)] w fun e w' => e = .returned (.int .i64 (z : Int)) ∧ w' = w) := fun w h => ntz_any o z w ho hx h
  have HL : Hid (∀ w, Calls Tryd.prog 31 #[.int .u64 (o : Int)] w fun e w' => e = .returned (.int .i64 ((o.log2 + 1 : Nat) : Int)) ∧ w' = w) := fun w => len64_any o w ho0 (by omega)
  have r1 : ((o * 2 ^ z : Nat) : Int) / 2 ^ z = (o : Int) := by
    have : ((o * 2 ^ z : Nat) : Int) = (o : Int) * 2 ^ z := by push_cast; rfl
    rw [this]
    exact Int.mul_ediv_cancel _ (by have : (0 : Int) < 2 ^ z := Int.pow_pos (by omega); omega)
  have hlt : o < 2 ^ (o.log2 + 1) := Nat.lt_log2_self
  generalize hS : ((o * 2 ^ z : Nat) : Int) = S at *
  have s1 : 0 < S := by omega
  have s2 : S < 18446744073709551616 := by omega
  obtain ⟨sp, hsp⟩ : ∃ sp : Int, sp = 23 - (o.log2 : Int) := ⟨_, rfl⟩
  rw [← hsp]
  have r2 : (24 : Int) - ((o.log2 + 1 : Nat) : Int) = sp := by omega
  by_cases c1 : sp < 0
  · refine (mk_32_fail_a z P sp _ S o w hT s1 s2 (by omega) (by omega) p1 p2 (by omega) (by omega) (by omega) (by omega) (by omega) r1 r2 (by simpa using c1) HN HL).mono ?_
    rintro e w' ⟨rfl, hb⟩
    exact ⟨MkPost.fail (.inl (by omega)), hb⟩
  by_cases c2 : P < -149
  · refine (mk_32_fail_b z P sp _ S o w hT s1 s2 (by omega) (by omega) p1 p2 (by omega) (by omega) (by omega) (by omega) (by omega) r1 r2 (by simpa using c1) (by simpa using c2) HN HL).mono ?_
    rintro e w' ⟨rfl, hb⟩
    exact ⟨MkPost.fail (.inl (by omega)), hb⟩
  obtain ⟨m, hm⟩ : ∃ m : Nat, min sp (P - (-149)) = (m : Int) := ⟨(min sp (P - (-149))).toNat, by omega⟩
  have r3 : min sp (P + 149) = (m : Int) := by omega
  rw [hm, Int.toNat_natCast]
  have hm63 : o * 2 ^ m < 16777216 := by
    have : o * 2 ^ m < 2 ^ (o.log2 + 1) * 2 ^ m := Nat.mul_lt_mul_of_pos_right hlt (Nat.two_pow_pos m)
    rw [← Nat.pow_add] at this
    have h2 : 2 ^ (o.log2 + 1 + m) ≤ 2 ^ 24 := Nat.pow_le_pow_right (by omega) (by omega)
    have h3 : (2 : Nat) ^ 24 = 16777216 := by decide
    omega
  have hmp : 0 < o * 2 ^ m := Nat.mul_pos (by omega) (Nat.two_pow_pos m)
  have r4 : IntKind.u64.wrap ((o : Int) * 2 ^ m) = ((o * 2 ^ m : Nat) : Int) := by
    have e : (o : Int) * 2 ^ m = ((o * 2 ^ m : Nat) : Int) := by push_cast; rfl
    rw [e, IntKind.wrap_u64]; omega
  have d0 : (0 : Int) < ((o * 2 ^ m : Nat) : Int) := by omega
  have d1 : ((o * 2 ^ m : Nat) : Int) < 16777216 := by omega
  generalize ((o * 2 ^ m : Nat) : Int) = Dm at *
  by_cases c3 : 255 ≤ P - (m : Int) + 149 + 1
  · refine (mk_32_fail_c z m P sp _ S o Dm w hT s1 s2 (by omega) (by omega) p1 p2 (by omega) (by omega) (by omega) (by omega) (by omega) r1 r2 r3 (by omega) (by omega) r4 d0 d1 (by simpa using c1) (by simpa using c2) (by simpa using c3) HN HL).mono ?_
    rintro e w' ⟨rfl, hb⟩
    exact ⟨MkPost.fail (.inr (by omega)), hb⟩
  · refine (mk_32_ok z m P sp _ S o Dm w hT s1 s2 (by omega) (by omega) p1 p2 (by omega) (by omega) (by omega) (by omega) (by omega) r1 r2 r3 (by omega) (by omega) r4 d0 d1 (by simpa using c1) (by simpa using c2) (by simpa using c3) (by omega) HN HL).mono ?_
    rintro e w' ⟨rfl, hb⟩
    exact ⟨MkPost.ok (by omega) (by omega) (by simp only [Bool.false_eq_true, if_false]; omega), hb⟩
end Go.Proofs.YtljmmaaaeojbpaaDoor
