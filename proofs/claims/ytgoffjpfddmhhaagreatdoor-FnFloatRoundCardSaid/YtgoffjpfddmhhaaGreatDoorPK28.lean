/- What BitMake answers: at which sizes and powers there is such a float, and its order number; the length of a word. The world is as it was. -/
import Derived.Test.YtgoffjpfddmhhaaGreatDoorPK02
import Derived.Test.YtgoffjpfddmhhaaGreatDoorPK05
import Derived.Test.YtgoffjpfddmhhaaGreatDoorPK01
import Derived.Test.YtgoffjpfddmhhaaGreatDoorPK21
namespace Go.Proofs.YtgoffjpfddmhhaaGreatDoor
open Go.RowKit
set_option linter.unusedVariables false
set_option maxRecDepth 100000


def MkPost (L U E P m Dm : Int) (bl : Bool) (e : Ending) : Prop :=
  (m < 0 ∨ E ≤ P - m - L + 1 → e = .returned (.tuple #[.int .i64 0, .bool false])) ∧ (0 ≤ m → P - m - L + 1 < E → e = .returned (.tuple #[.int .i64 (if bl then -((P - m - L) * U + Dm) else (P - m - L) * U + Dm), .bool true]))
theorem MkPost.fail {L U E P m Dm : Int} {bl : Bool} (h : m < 0 ∨ E ≤ P - m - L + 1) : MkPost L U E P m Dm bl (.returned (.tuple #[.int .i64 0, .bool false])) :=
  ⟨fun _ => rfl, fun a b => by omega⟩
theorem MkPost.ok {L U E P m Dm v : Int} {bl : Bool} (h : 0 ≤ m) (g : P - m - L + 1 < E) (hv : v = if bl then -((P - m - L) * U + Dm) else (P - m - L) * U + Dm) : MkPost L U E P m Dm bl (.returned (.tuple #[.int .i64 v, .bool true])) :=
  ⟨fun a => by omega, fun _ _ => by rw [hv]⟩
theorem MkPost.one {L U E P m Dm : Int} {bl : Bool} {a b : Ending} (h : MkPost L U E P m Dm bl a) (g : MkPost L U E P m Dm bl b) : a = b := by
  by_cases c : m < 0 ∨ E ≤ P - m - L + 1
  · rw [h.1 c, g.1 c]
  · rw [h.2 (by omega) (by omega), g.2 (by omega) (by omega)]
theorem bitLen_log2 (x : Nat) (h0 : x ≠ 0) (h : x < 2 ^ 64) : Lib.bitLen x = x.log2 + 1 := by
  induction x using Nat.strongRecOn with
  | _ x ih =>
    rw [Lib.bitLen_half x h0 h]
    by_cases h1 : x = 1
    · subst h1; decide
    · rw [ih (x / 2) (by omega) (by omega) (by omega), Nat.log2_def x, if_pos (by omega)]
      omega

theorem len64_any (o : Nat) (w : World) (h0 : o ≠ 0) (h : o < 2 ^ 64) :
    Calls Tryz.prog 121 #[.int .u64 (o : Int)] w fun e w' => e = .returned (.int .i64 ((o.log2 + 1 : Nat) : Int)) ∧ w' = w := by
  have key := iLen64 (o : Int) (by omega) w
  have e : hlvI (o : Int) = ((o.log2 + 1 : Nat) : Int) := by
    unfold hlvI
    rw [Int.toNat_natCast, bitLen_log2 o h0 h]
  rw [e] at key
  exact key
end Go.Proofs.YtgoffjpfddmhhaaGreatDoor

/- The contract of the program's sizeMade at width 32, where the library's table lies as its text lays it; nothing that was there is written. -/
namespace Go.Proofs.YtgoffjpfddmhhaaGreatDoor
open Go.RowKit
set_option linter.unusedVariables false
set_option maxRecDepth 100000


set_option maxHeartbeats 1000000 in
theorem mk_32_fail_a (z : Nat) (P sp ln S O : Int) (w : World) (hT : Tab w) (s1 : 0 < S) (s2 : S < 18446744073709551616) (o1 : 0 < O) (o2 : O < 18446744073709551616) (p1 : -3000 ≤ P) (p2 : P ≤ 3000) (z1 : (z : Int) ≤ 63) (l0 : 0 ≤ ln) (l1 : ln ≤ 64) (q1 : -64 ≤ sp) (q2 : sp ≤ 64) (r1 : S / 2 ^ z = O) (r2 : 24 - ln = sp) (c1 : decide (sp < 0) = true)
    (HN : Hid (∀ w, Tab w → Calls Tryz.prog 123 #[.int .u64 S] w fun e w' => e = .returned (.int .i64 (z : Int)) ∧ w' = w)) (HL : Hid (∀ w, Calls Tryz.prog 121 #[.int .u64 O] w fun e w' => e = .returned (.int .i64 ln) ∧ w' = w)) :
    Calls Tryz.prog 173 #[.iface 116 (.agg #[]), .int .u64 S, .int .i64 (P - (z : Int))] w fun e w' => e = .returned (.tuple #[.int .i64 0, .bool false]) ∧ Below w.heap.size w w' := by
  have m1 := meth_top_32
  have m2 := meth_fraction_32
  have m3 := meth_least_32
  go_enter Tryz.func173, Tryz.ntmps173
  go_wp2_with (first | (go_at_call 123; refine (HN.out _ hT).mono ?_; rintro e w1 ⟨rfl, rfl⟩) | (go_at_call 121; refine (HL.out _).mono ?_; rintro e w1 ⟨rfl, rfl⟩) | go_in)
  go_ret2
  exact ⟨rfl, (by repeat (first | exact Below.refl _ _ | refine Below.drew ?_ | refine Below.setCell ?_ (by simp) _ | refine old_alloc ?_ _ | refine old_trans ?_ (by assumption)))⟩

set_option maxHeartbeats 1000000 in
theorem mk_32_fail_b (z : Nat) (P sp ln S O : Int) (w : World) (hT : Tab w) (s1 : 0 < S) (s2 : S < 18446744073709551616) (o1 : 0 < O) (o2 : O < 18446744073709551616) (p1 : -3000 ≤ P) (p2 : P ≤ 3000) (z1 : (z : Int) ≤ 63) (l0 : 0 ≤ ln) (l1 : ln ≤ 64) (q1 : -64 ≤ sp) (q2 : sp ≤ 64) (r1 : S / 2 ^ z = O) (r2 : 24 - ln = sp) (c1 : decide (sp < 0) = false) (c2 : decide (P < -149) = true)
    (HN : Hid (∀ w, Tab w → Calls Tryz.prog 123 #[.int .u64 S] w fun e w' => e = .returned (.int .i64 (z : Int)) ∧ w' = w)) (HL : Hid (∀ w, Calls Tryz.prog 121 #[.int .u64 O] w fun e w' => e = .returned (.int .i64 ln) ∧ w' = w)) :
    Calls Tryz.prog 173 #[.iface 116 (.agg #[]), .int .u64 S, .int .i64 (P - (z : Int))] w fun e w' => e = .returned (.tuple #[.int .i64 0, .bool false]) ∧ Below w.heap.size w w' := by
  have m1 := meth_top_32
  have m2 := meth_fraction_32
  have m3 := meth_least_32
  go_enter Tryz.func173, Tryz.ntmps173
  go_wp2_with (first | (go_at_call 123; refine (HN.out _ hT).mono ?_; rintro e w1 ⟨rfl, rfl⟩) | (go_at_call 121; refine (HL.out _).mono ?_; rintro e w1 ⟨rfl, rfl⟩) | go_in)
  go_ret2
  exact ⟨rfl, (by repeat (first | exact Below.refl _ _ | refine Below.drew ?_ | refine Below.setCell ?_ (by simp) _ | refine old_alloc ?_ _ | refine old_trans ?_ (by assumption)))⟩

set_option maxHeartbeats 1000000 in
theorem mk_32_fail_c (z m : Nat) (P sp ln S O Dm : Int) (w : World) (hT : Tab w) (s1 : 0 < S) (s2 : S < 18446744073709551616) (o1 : 0 < O) (o2 : O < 18446744073709551616) (p1 : -3000 ≤ P) (p2 : P ≤ 3000) (z1 : (z : Int) ≤ 63) (l0 : 0 ≤ ln) (l1 : ln ≤ 64) (q1 : -64 ≤ sp) (q2 : sp ≤ 64) (r1 : S / 2 ^ z = O) (r2 : 24 - ln = sp) (r3 : min sp (P + 149) = (m : Int)) (m1 : (m : Int) ≤ 64) (m2 : (m : Int) ≤ P + 149) (r4 : IntKind.u64.wrap (O * 2 ^ m) = Dm) (d0 : 0 < Dm) (d1 : Dm < 16777216) (c1 : decide (sp < 0) = false) (c2 : decide (P < -149) = false) (c3 : decide (255 ≤ P - (m : Int) + 149 + 1) = true)
    (HN : Hid (∀ w, Tab w → Calls Tryz.prog 123 #[.int .u64 S] w fun e w' => e = .returned (.int .i64 (z : Int)) ∧ w' = w)) (HL : Hid (∀ w, Calls Tryz.prog 121 #[.int .u64 O] w fun e w' => e = .returned (.int .i64 ln) ∧ w' = w)) :
    Calls Tryz.prog 173 #[.iface 116 (.agg #[]), .int .u64 S, .int .i64 (P - (z : Int))] w fun e w' => e = .returned (.tuple #[.int .i64 0, .bool false]) ∧ Below w.heap.size w w' := by
  have m1 := meth_top_32
  have m2 := meth_fraction_32
  have m3 := meth_least_32
  go_enter Tryz.func173, Tryz.ntmps173
  go_wp2_with (first | (go_at_call 123; refine (HN.out _ hT).mono ?_; rintro e w1 ⟨rfl, rfl⟩) | (go_at_call 121; refine (HL.out _).mono ?_; rintro e w1 ⟨rfl, rfl⟩) | go_in)
  go_ret2
  exact ⟨rfl, (by repeat (first | exact Below.refl _ _ | refine Below.drew ?_ | refine Below.setCell ?_ (by simp) _ | refine old_alloc ?_ _ | refine old_trans ?_ (by assumption)))⟩

set_option maxHeartbeats 1000000 in
theorem mk_32_ok (z m : Nat) (P sp ln S O Dm : Int) (w : World) (hT : Tab w) (s1 : 0 < S) (s2 : S < 18446744073709551616) (o1 : 0 < O) (o2 : O < 18446744073709551616) (p1 : -3000 ≤ P) (p2 : P ≤ 3000) (z1 : (z : Int) ≤ 63) (l0 : 0 ≤ ln) (l1 : ln ≤ 64) (q1 : -64 ≤ sp) (q2 : sp ≤ 64) (r1 : S / 2 ^ z = O) (r2 : 24 - ln = sp) (r3 : min sp (P + 149) = (m : Int)) (m1 : (m : Int) ≤ 64) (m2 : (m : Int) ≤ P + 149) (r4 : IntKind.u64.wrap (O * 2 ^ m) = Dm) (d0 : 0 < Dm) (d1 : Dm < 16777216) (c1 : decide (sp < 0) = false) (c2 : decide (P < -149) = false) (c3 : decide (255 ≤ P - (m : Int) + 149 + 1) = false) (c4 : P - (m : Int) + 149 + 1 < 255)
    (HN : Hid (∀ w, Tab w → Calls Tryz.prog 123 #[.int .u64 S] w fun e w' => e = .returned (.int .i64 (z : Int)) ∧ w' = w)) (HL : Hid (∀ w, Calls Tryz.prog 121 #[.int .u64 O] w fun e w' => e = .returned (.int .i64 ln) ∧ w' = w)) :
    Calls Tryz.prog 173 #[.iface 116 (.agg #[]), .int .u64 S, .int .i64 (P - (z : Int))] w fun e w' => e = .returned (.tuple #[.int .i64 ((P - (m : Int) + 149) * 8388608 + Dm), .bool true]) ∧ Below w.heap.size w w' := by
  have m1 := meth_top_32
  have m2 := meth_fraction_32
  have m3 := meth_least_32
  go_enter Tryz.func173, Tryz.ntmps173
  go_wp2_with (first | (go_at_call 123; refine (HN.out _ hT).mono ?_; rintro e w1 ⟨rfl, rfl⟩) | (go_at_call 121; refine (HL.out _).mono ?_; rintro e w1 ⟨rfl, rfl⟩) | go_in)
  go_ret2
  exact ⟨rfl, (by repeat (first | exact Below.refl _ _ | refine Below.drew ?_ | refine Below.setCell ?_ (by simp) _ | refine old_alloc ?_ _ | refine old_trans ?_ (by assumption)))⟩

theorem mkSize_32 (o z : Nat) (P : Int) (w : World) (hT : Tab w) (ho : o % 2 = 1) (hx : o * 2 ^ z < 2 ^ 64) (p1 : -3000 ≤ P) (p2 : P ≤ 3000) (zz : z ≤ 63) :
    Calls Tryz.prog 173 #[.iface 116 (.agg #[]), .int .u64 ((o * 2 ^ z : Nat) : Int), .int .i64 (P - (z : Int))] w fun e w' =>
      MkPost (-149) 8388608 255 P (min (23 - (o.log2 : Int)) (P - (-149))) ((o * 2 ^ (min (23 - (o.log2 : Int)) (P - (-149))).toNat : Nat) : Int) false e ∧ Below w.heap.size w w' := by
  have hz := Nat.two_pow_pos z
  have hpos : 0 < o * 2 ^ z := Nat.mul_pos (by omega) hz
  have ho0 : o ≠ 0 := by omega
  have hle : o ≤ o * 2 ^ z := Nat.le_mul_of_pos_right _ hz
  have hlog : o.log2 < 64 := (Nat.log2_lt ho0).2 (by omega)
  have HN : Hid (∀ w, Tab w → Calls Tryz.prog 123 #[.int .u64 ((o * 2 ^ z : Nat) : Int)] w fun e w' => e = .returned (.int .i64 (z : Int)) ∧ w' = w) := fun w h => ntz_any o z w ho hx h
  have HL : Hid (∀ w, Calls Tryz.prog 121 #[.int .u64 (o : Int)] w fun e w' => e = .returned (.int .i64 ((o.log2 + 1 : Nat) : Int)) ∧ w' = w) := fun w => len64_any o w ho0 (by omega)
  have r1 : ((o * 2 ^ z : Nat) : Int) / 2 ^ z = (o : Int) := by
    have : ((o * 2 ^ z : Nat) : Int) = (o : Int) * 2 ^ z := by push_cast; rfl
    rw [this]
    exact Int.mul_ediv_cancel _ (by have : (0 : Int) < 2 ^ z := Int.pow_pos (by omega); omega)
  have hlt : o < 2 ^ (o.log2 + 1) := Nat.lt_log2_self
  generalize hS : ((o * 2 ^ z : Nat) : Int) = S at *
  have s1 : 0 < S := by omega
  have s2 : S < 18446744073709551616 := by omega
  obtain ⟨sp, hsp⟩ : ∃ sp : Int, sp = 23 - (o.log2 : Int) := ⟨_, rfl⟩
  rw [← hsp]
  have r2 : (24 : Int) - ((o.log2 + 1 : Nat) : Int) = sp := by omega
  by_cases c1 : sp < 0
  · refine (mk_32_fail_a z P sp _ S o w hT s1 s2 (by omega) (by omega) p1 p2 (by omega) (by omega) (by omega) (by omega) (by omega) r1 r2 (by simpa using c1) HN HL).mono ?_
    rintro e w' ⟨rfl, hb⟩
    exact ⟨MkPost.fail (.inl (by omega)), hb⟩
  by_cases c2 : P < -149
  · refine (mk_32_fail_b z P sp _ S o w hT s1 s2 (by omega) (by omega) p1 p2 (by omega) (by omega) (by omega) (by omega) (by omega) r1 r2 (by simpa using c1) (by simpa using c2) HN HL).mono ?_
    rintro e w' ⟨rfl, hb⟩
    exact ⟨MkPost.fail (.inl (by omega)), hb⟩
  obtain ⟨m, hm⟩ : ∃ m : Nat, min sp (P - (-149)) = (m : Int) := ⟨(min sp (P - (-149))).toNat, by omega⟩
  have r3 : min sp (P + 149) = (m : Int) := by omega
  rw [hm, Int.toNat_natCast]
  have hm63 : o * 2 ^ m < 16777216 := by
    have : o * 2 ^ m < 2 ^ (o.log2 + 1) * 2 ^ m := Nat.mul_lt_mul_of_pos_right hlt (Nat.two_pow_pos m)
    rw [← Nat.pow_add] at this
    have h2 : 2 ^ (o.log2 + 1 + m) ≤ 2 ^ 24 := Nat.pow_le_pow_right (by omega) (by omega)
    have h3 : (2 : Nat) ^ 24 = 16777216 := by decide
    omega
  have hmp : 0 < o * 2 ^ m := Nat.mul_pos (by omega) (Nat.two_pow_pos m)
  have r4 : IntKind.u64.wrap ((o : Int) * 2 ^ m) = ((o * 2 ^ m : Nat) : Int) := by
    have e : (o : Int) * 2 ^ m = ((o * 2 ^ m : Nat) : Int) := by push_cast; rfl
    rw [e, IntKind.wrap_u64]; omega
  have d0 : (0 : Int) < ((o * 2 ^ m : Nat) : Int) := by omega
  have d1 : ((o * 2 ^ m : Nat) : Int) < 16777216 := by omega
  generalize ((o * 2 ^ m : Nat) : Int) = Dm at *
  by_cases c3 : 255 ≤ P - (m : Int) + 149 + 1
  · refine (mk_32_fail_c z m P sp _ S o Dm w hT s1 s2 (by omega) (by omega) p1 p2 (by omega) (by omega) (by omega) (by omega) (by omega) r1 r2 r3 (by omega) (by omega) r4 d0 d1 (by simpa using c1) (by simpa using c2) (by simpa using c3) HN HL).mono ?_
    rintro e w' ⟨rfl, hb⟩
    exact ⟨MkPost.fail (.inr (by omega)), hb⟩
  · refine (mk_32_ok z m P sp _ S o Dm w hT s1 s2 (by omega) (by omega) p1 p2 (by omega) (by omega) (by omega) (by omega) (by omega) r1 r2 r3 (by omega) (by omega) r4 d0 d1 (by simpa using c1) (by simpa using c2) (by simpa using c3) (by omega) HN HL).mono ?_
    rintro e w' ⟨rfl, hb⟩
    exact ⟨MkPost.ok (by omega) (by omega) (by simp only [Bool.false_eq_true, if_false]; omega), hb⟩
end Go.Proofs.YtgoffjpfddmhhaaGreatDoor

/- The contract of the program's sizeMade at width 64, where the library's table lies as its text lays it; nothing that was there is written. -/
namespace Go.Proofs.YtgoffjpfddmhhaaGreatDoor
open Go.RowKit
set_option linter.unusedVariables false
set_option maxRecDepth 100000


set_option maxHeartbeats 1000000 in
theorem mk_64_fail_a (z : Nat) (P sp ln S O : Int) (w : World) (hT : Tab w) (s1 : 0 < S) (s2 : S < 18446744073709551616) (o1 : 0 < O) (o2 : O < 18446744073709551616) (p1 : -3000 ≤ P) (p2 : P ≤ 3000) (z1 : (z : Int) ≤ 63) (l0 : 0 ≤ ln) (l1 : ln ≤ 64) (q1 : -64 ≤ sp) (q2 : sp ≤ 64) (r1 : S / 2 ^ z = O) (r2 : 53 - ln = sp) (c1 : decide (sp < 0) = true)
    (HN : Hid (∀ w, Tab w → Calls Tryz.prog 123 #[.int .u64 S] w fun e w' => e = .returned (.int .i64 (z : Int)) ∧ w' = w)) (HL : Hid (∀ w, Calls Tryz.prog 121 #[.int .u64 O] w fun e w' => e = .returned (.int .i64 ln) ∧ w' = w)) :
    Calls Tryz.prog 173 #[.iface 119 (.agg #[]), .int .u64 S, .int .i64 (P - (z : Int))] w fun e w' => e = .returned (.tuple #[.int .i64 0, .bool false]) ∧ Below w.heap.size w w' := by
  have m1 := meth_top_64
  have m2 := meth_fraction_64
  have m3 := meth_least_64
  go_enter Tryz.func173, Tryz.ntmps173
  go_wp2_with (first | (go_at_call 123; refine (HN.out _ hT).mono ?_; rintro e w1 ⟨rfl, rfl⟩) | (go_at_call 121; refine (HL.out _).mono ?_; rintro e w1 ⟨rfl, rfl⟩) | go_in)
  go_ret2
  exact ⟨rfl, (by repeat (first | exact Below.refl _ _ | refine Below.drew ?_ | refine Below.setCell ?_ (by simp) _ | refine old_alloc ?_ _ | refine old_trans ?_ (by assumption)))⟩

set_option maxHeartbeats 1000000 in
theorem mk_64_fail_b (z : Nat) (P sp ln S O : Int) (w : World) (hT : Tab w) (s1 : 0 < S) (s2 : S < 18446744073709551616) (o1 : 0 < O) (o2 : O < 18446744073709551616) (p1 : -3000 ≤ P) (p2 : P ≤ 3000) (z1 : (z : Int) ≤ 63) (l0 : 0 ≤ ln) (l1 : ln ≤ 64) (q1 : -64 ≤ sp) (q2 : sp ≤ 64) (r1 : S / 2 ^ z = O) (r2 : 53 - ln = sp) (c1 : decide (sp < 0) = false) (c2 : decide (P < -1074) = true)
    (HN : Hid (∀ w, Tab w → Calls Tryz.prog 123 #[.int .u64 S] w fun e w' => e = .returned (.int .i64 (z : Int)) ∧ w' = w)) (HL : Hid (∀ w, Calls Tryz.prog 121 #[.int .u64 O] w fun e w' => e = .returned (.int .i64 ln) ∧ w' = w)) :
    Calls Tryz.prog 173 #[.iface 119 (.agg #[]), .int .u64 S, .int .i64 (P - (z : Int))] w fun e w' => e = .returned (.tuple #[.int .i64 0, .bool false]) ∧ Below w.heap.size w w' := by
  have m1 := meth_top_64
  have m2 := meth_fraction_64
  have m3 := meth_least_64
  go_enter Tryz.func173, Tryz.ntmps173
  go_wp2_with (first | (go_at_call 123; refine (HN.out _ hT).mono ?_; rintro e w1 ⟨rfl, rfl⟩) | (go_at_call 121; refine (HL.out _).mono ?_; rintro e w1 ⟨rfl, rfl⟩) | go_in)
  go_ret2
  exact ⟨rfl, (by repeat (first | exact Below.refl _ _ | refine Below.drew ?_ | refine Below.setCell ?_ (by simp) _ | refine old_alloc ?_ _ | refine old_trans ?_ (by assumption)))⟩

set_option maxHeartbeats 1000000 in
theorem mk_64_fail_c (z m : Nat) (P sp ln S O Dm : Int) (w : World) (hT : Tab w) (s1 : 0 < S) (s2 : S < 18446744073709551616) (o1 : 0 < O) (o2 : O < 18446744073709551616) (p1 : -3000 ≤ P) (p2 : P ≤ 3000) (z1 : (z : Int) ≤ 63) (l0 : 0 ≤ ln) (l1 : ln ≤ 64) (q1 : -64 ≤ sp) (q2 : sp ≤ 64) (r1 : S / 2 ^ z = O) (r2 : 53 - ln = sp) (r3 : min sp (P + 1074) = (m : Int)) (m1 : (m : Int) ≤ 64) (m2 : (m : Int) ≤ P + 1074) (r4 : IntKind.u64.wrap (O * 2 ^ m) = Dm) (d0 : 0 < Dm) (d1 : Dm < 9007199254740992) (c1 : decide (sp < 0) = false) (c2 : decide (P < -1074) = false) (c3 : decide (2047 ≤ P - (m : Int) + 1074 + 1) = true)
    (HN : Hid (∀ w, Tab w → Calls Tryz.prog 123 #[.int .u64 S] w fun e w' => e = .returned (.int .i64 (z : Int)) ∧ w' = w)) (HL : Hid (∀ w, Calls Tryz.prog 121 #[.int .u64 O] w fun e w' => e = .returned (.int .i64 ln) ∧ w' = w)) :
    Calls Tryz.prog 173 #[.iface 119 (.agg #[]), .int .u64 S, .int .i64 (P - (z : Int))] w fun e w' => e = .returned (.tuple #[.int .i64 0, .bool false]) ∧ Below w.heap.size w w' := by
  have m1 := meth_top_64
  have m2 := meth_fraction_64
  have m3 := meth_least_64
  go_enter Tryz.func173, Tryz.ntmps173
  go_wp2_with (first | (go_at_call 123; refine (HN.out _ hT).mono ?_; rintro e w1 ⟨rfl, rfl⟩) | (go_at_call 121; refine (HL.out _).mono ?_; rintro e w1 ⟨rfl, rfl⟩) | go_in)
  go_ret2
  exact ⟨rfl, (by repeat (first | exact Below.refl _ _ | refine Below.drew ?_ | refine Below.setCell ?_ (by simp) _ | refine old_alloc ?_ _ | refine old_trans ?_ (by assumption)))⟩

set_option maxHeartbeats 1000000 in
theorem mk_64_ok (z m : Nat) (P sp ln S O Dm : Int) (w : World) (hT : Tab w) (s1 : 0 < S) (s2 : S < 18446744073709551616) (o1 : 0 < O) (o2 : O < 18446744073709551616) (p1 : -3000 ≤ P) (p2 : P ≤ 3000) (z1 : (z : Int) ≤ 63) (l0 : 0 ≤ ln) (l1 : ln ≤ 64) (q1 : -64 ≤ sp) (q2 : sp ≤ 64) (r1 : S / 2 ^ z = O) (r2 : 53 - ln = sp) (r3 : min sp (P + 1074) = (m : Int)) (m1 : (m : Int) ≤ 64) (m2 : (m : Int) ≤ P + 1074) (r4 : IntKind.u64.wrap (O * 2 ^ m) = Dm) (d0 : 0 < Dm) (d1 : Dm < 9007199254740992) (c1 : decide (sp < 0) = false) (c2 : decide (P < -1074) = false) (c3 : decide (2047 ≤ P - (m : Int) + 1074 + 1) = false) (c4 : P - (m : Int) + 1074 + 1 < 2047)
    (HN : Hid (∀ w, Tab w → Calls Tryz.prog 123 #[.int .u64 S] w fun e w' => e = .returned (.int .i64 (z : Int)) ∧ w' = w)) (HL : Hid (∀ w, Calls Tryz.prog 121 #[.int .u64 O] w fun e w' => e = .returned (.int .i64 ln) ∧ w' = w)) :
    Calls Tryz.prog 173 #[.iface 119 (.agg #[]), .int .u64 S, .int .i64 (P - (z : Int))] w fun e w' => e = .returned (.tuple #[.int .i64 ((P - (m : Int) + 1074) * 4503599627370496 + Dm), .bool true]) ∧ Below w.heap.size w w' := by
  have m1 := meth_top_64
  have m2 := meth_fraction_64
  have m3 := meth_least_64
  go_enter Tryz.func173, Tryz.ntmps173
  go_wp2_with (first | (go_at_call 123; refine (HN.out _ hT).mono ?_; rintro e w1 ⟨rfl, rfl⟩) | (go_at_call 121; refine (HL.out _).mono ?_; rintro e w1 ⟨rfl, rfl⟩) | go_in)
  go_ret2
  exact ⟨rfl, (by repeat (first | exact Below.refl _ _ | refine Below.drew ?_ | refine Below.setCell ?_ (by simp) _ | refine old_alloc ?_ _ | refine old_trans ?_ (by assumption)))⟩

theorem mkSize_64 (o z : Nat) (P : Int) (w : World) (hT : Tab w) (ho : o % 2 = 1) (hx : o * 2 ^ z < 2 ^ 64) (p1 : -3000 ≤ P) (p2 : P ≤ 3000) (zz : z ≤ 63) :
    Calls Tryz.prog 173 #[.iface 119 (.agg #[]), .int .u64 ((o * 2 ^ z : Nat) : Int), .int .i64 (P - (z : Int))] w fun e w' =>
      MkPost (-1074) 4503599627370496 2047 P (min (52 - (o.log2 : Int)) (P - (-1074))) ((o * 2 ^ (min (52 - (o.log2 : Int)) (P - (-1074))).toNat : Nat) : Int) false e ∧ Below w.heap.size w w' := by
  have hz := Nat.two_pow_pos z
  have hpos : 0 < o * 2 ^ z := Nat.mul_pos (by omega) hz
  have ho0 : o ≠ 0 := by omega
  have hle : o ≤ o * 2 ^ z := Nat.le_mul_of_pos_right _ hz
  have hlog : o.log2 < 64 := (Nat.log2_lt ho0).2 (by omega)
  have HN : Hid (∀ w, Tab w → Calls Tryz.prog 123 #[.int .u64 ((o * 2 ^ z : Nat) : Int)] w fun e w' => e = .returned (.int .i64 (z : Int)) ∧ w' = w) := fun w h => ntz_any o z w ho hx h
  have HL : Hid (∀ w, Calls Tryz.prog 121 #[.int .u64 (o : Int)] w fun e w' => e = .returned (.int .i64 ((o.log2 + 1 : Nat) : Int)) ∧ w' = w) := fun w => len64_any o w ho0 (by omega)
  have r1 : ((o * 2 ^ z : Nat) : Int) / 2 ^ z = (o : Int) := by
    have : ((o * 2 ^ z : Nat) : Int) = (o : Int) * 2 ^ z := by push_cast; rfl
    rw [this]
    exact Int.mul_ediv_cancel _ (by have : (0 : Int) < 2 ^ z := Int.pow_pos (by omega); omega)
  have hlt : o < 2 ^ (o.log2 + 1) := Nat.lt_log2_self
  generalize hS : ((o * 2 ^ z : Nat) : Int) = S at *
  have s1 : 0 < S := by omega
  have s2 : S < 18446744073709551616 := by omega
  obtain ⟨sp, hsp⟩ : ∃ sp : Int, sp = 52 - (o.log2 : Int) := ⟨_, rfl⟩
  rw [← hsp]
  have r2 : (53 : Int) - ((o.log2 + 1 : Nat) : Int) = sp := by omega
  by_cases c1 : sp < 0
  · refine (mk_64_fail_a z P sp _ S o w hT s1 s2 (by omega) (by omega) p1 p2 (by omega) (by omega) (by omega) (by omega) (by omega) r1 r2 (by simpa using c1) HN HL).mono ?_
    rintro e w' ⟨rfl, hb⟩
    exact ⟨MkPost.fail (.inl (by omega)), hb⟩
  by_cases c2 : P < -1074
  · refine (mk_64_fail_b z P sp _ S o w hT s1 s2 (by omega) (by omega) p1 p2 (by omega) (by omega) (by omega) (by omega) (by omega) r1 r2 (by simpa using c1) (by simpa using c2) HN HL).mono ?_
    rintro e w' ⟨rfl, hb⟩
    exact ⟨MkPost.fail (.inl (by omega)), hb⟩
  obtain ⟨m, hm⟩ : ∃ m : Nat, min sp (P - (-1074)) = (m : Int) := ⟨(min sp (P - (-1074))).toNat, by omega⟩
  have r3 : min sp (P + 1074) = (m : Int) := by omega
  rw [hm, Int.toNat_natCast]
  have hm63 : o * 2 ^ m < 9007199254740992 := by
    have : o * 2 ^ m < 2 ^ (o.log2 + 1) * 2 ^ m := Nat.mul_lt_mul_of_pos_right hlt (Nat.two_pow_pos m)
    rw [← Nat.pow_add] at this
    have h2 : 2 ^ (o.log2 + 1 + m) ≤ 2 ^ 53 := Nat.pow_le_pow_right (by omega) (by omega)
    have h3 : (2 : Nat) ^ 53 = 9007199254740992 := by decide
    omega
  have hmp : 0 < o * 2 ^ m := Nat.mul_pos (by omega) (Nat.two_pow_pos m)
  have r4 : IntKind.u64.wrap ((o : Int) * 2 ^ m) = ((o * 2 ^ m : Nat) : Int) := by
    have e : (o : Int) * 2 ^ m = ((o * 2 ^ m : Nat) : Int) := by push_cast; rfl
    rw [e, IntKind.wrap_u64]; omega
  have d0 : (0 : Int) < ((o * 2 ^ m : Nat) : Int) := by omega
  have d1 : ((o * 2 ^ m : Nat) : Int) < 9007199254740992 := by omega
  generalize ((o * 2 ^ m : Nat) : Int) = Dm at *
  by_cases c3 : 2047 ≤ P - (m : Int) + 1074 + 1
  · refine (mk_64_fail_c z m P sp _ S o Dm w hT s1 s2 (by omega) (by omega) p1 p2 (by omega) (by omega) (by omega) (by omega) (by omega) r1 r2 r3 (by omega) (by omega) r4 d0 d1 (by simpa using c1) (by simpa using c2) (by simpa using c3) HN HL).mono ?_
    rintro e w' ⟨rfl, hb⟩
    exact ⟨MkPost.fail (.inr (by omega)), hb⟩
  · refine (mk_64_ok z m P sp _ S o Dm w hT s1 s2 (by omega) (by omega) p1 p2 (by omega) (by omega) (by omega) (by omega) (by omega) r1 r2 r3 (by omega) (by omega) r4 d0 d1 (by simpa using c1) (by simpa using c2) (by simpa using c3) (by omega) HN HL).mono ?_
    rintro e w' ⟨rfl, hb⟩
    exact ⟨MkPost.ok (by omega) (by omega) (by simp only [Bool.false_eq_true, if_false]; omega), hb⟩
end Go.Proofs.YtgoffjpfddmhhaaGreatDoor

/- The contract of the program's BitMake, of sizes that are 0 or not, at both widths; the library's table lies as its text lays it; nothing that was there is written. -/
namespace Go.Proofs.YtgoffjpfddmhhaaGreatDoor
open Go.RowKit
set_option linter.unusedVariables false
set_option maxRecDepth 100000

def mkD (o : Nat) (k : Nat) : Int := ((o * 2 ^ k : Nat) : Int)
theorem mkD_lt (o k f : Nat) (h0 : o ≠ 0) : mkD o k < ((2 ^ f : Nat) : Int) ↔ (k : Int) < (f : Int) - (o.log2 : Int) := by
  have a := Nat.log2_self_le h0
  have b := Nat.lt_log2_self (n := o)
  unfold mkD
  constructor
  · intro h
    have h' : o * 2 ^ k < 2 ^ f := by omega
    have c : 2 ^ (o.log2 + k) < 2 ^ f := by
      rw [Nat.pow_add]
      exact Nat.lt_of_le_of_lt (Nat.mul_le_mul_right _ a) h'
    have := (Nat.pow_lt_pow_iff_right (by omega : 1 < 2)).1 c
    omega
  · intro h
    have c : o * 2 ^ k < 2 ^ (o.log2 + 1) * 2 ^ k := Nat.mul_lt_mul_of_pos_right b (Nat.two_pow_pos k)
    rw [← Nat.pow_add] at c
    have d : 2 ^ (o.log2 + 1 + k) ≤ 2 ^ f := Nat.pow_le_pow_right (by omega) (by omega)
    omega

set_option maxHeartbeats 1000000 in
theorem iMake_32 (o z : Nat) (P : Int) (bl : Bool) (w : World) (hT : Tab w) (ho : o % 2 = 1) (hx : o * 2 ^ z < 2 ^ 64) (pl : -2000 ≤ P - (z : Int)) (ph : P - (z : Int) ≤ 2000) (zz : z ≤ 63) :
    Calls Tryz.prog 165 #[.int .i64 32, .agg #[.bool bl, .int .u64 ((o * 2 ^ z : Nat) : Int), .int .i64 (P - (z : Int))]] w fun e w' => MkPost (-149) 8388608 255 P (min (23 - (o.log2 : Int)) (P - (-149))) ((o * 2 ^ (min (23 - (o.log2 : Int)) (P - (-149))).toNat : Nat) : Int) bl e ∧ Below w.heap.size w w' := by
  have hS : Hid (∀ w, Tab w → Calls Tryz.prog 173 #[.iface 116 (.agg #[]), .int .u64 ((o * 2 ^ z : Nat) : Int), .int .i64 (P - (z : Int))] w fun e w' => MkPost (-149) 8388608 255 P (min (23 - (o.log2 : Int)) (P - (-149))) ((o * 2 ^ (min (23 - (o.log2 : Int)) (P - (-149))).toNat : Nat) : Int) false e ∧ Below w.heap.size w w') := fun w h => mkSize_32 o z P w h ho hx (by omega) (by omega) zz
  have hpos : 0 < o * 2 ^ z := Nat.mul_pos (by omega) (Nat.two_pow_pos z)
  have ho0 : o ≠ 0 := by omega
  have hD : ¬ ((min (23 - (o.log2 : Int)) (P - (-149))) < 0) → ((o * 2 ^ (min (23 - (o.log2 : Int)) (P - (-149))).toNat : Nat) : Int) < 16777216 := fun h => by
    have h1 := (mkD_lt o (min (23 - (o.log2 : Int)) (P - (-149))).toNat 24 ho0).2 (by omega)
    have e : (((2 ^ 24 : Nat)) : Int) = 16777216 := by decide
    rw [e] at h1
    exact h1
  have hDp : 0 < ((o * 2 ^ (min (23 - (o.log2 : Int)) (P - (-149))).toNat : Nat) : Int) := by
    have : 0 < o * 2 ^ (min (23 - (o.log2 : Int)) (P - (-149))).toNat := Nat.mul_pos (by omega) (Nat.two_pow_pos _)
    omega
  have s0 : (((o * 2 ^ z : Nat) : Int) == 0) = false := beq_eq_false_iff_ne.2 (by omega)
  have hML : (min (23 - (o.log2 : Int)) (P - (-149))) ≤ P - (-149) := by omega
  generalize ((o * 2 ^ z : Nat) : Int) = S at *
  generalize ((o * 2 ^ (min (23 - (o.log2 : Int)) (P - (-149))).toNat : Nat) : Int) = Dm at *
  generalize (min (23 - (o.log2 : Int)) (P - (-149))) = M at *
  have HD : Hid (¬ (M < 0) → Dm < 16777216) := hD
  have HP : Hid (0 < Dm) := hDp
  have t1 : decide (P - (z : Int) < -2000) = false := by simp; omega
  have t2 : decide (2000 < P - (z : Int)) = false := by simp; omega
  have HML : Hid (M ≤ P - (-149)) := hML
  clear hD hDp hpos hx ho ho0 hML
  go_enter Tryz.func165, Tryz.ntmps165
  go_wp2_with fail
  refine (formOf_32 _).mono ?_
  rintro e w1 ⟨rfl, hb1⟩
  have z0 : w.heap.size < w1.heap.size := Nat.lt_of_lt_of_le (by simp) hb1.size
  have c0 : w1.cell? ⟨w.heap.size, 0, none⟩ = some (.bool bl) := (hb1.cell (p := ⟨w.heap.size, 0, none⟩) (by simp)).trans (by simp)
  have c1 : w1.cell? ⟨w.heap.size, 1, none⟩ = some (.int .u64 S) := (hb1.cell (p := ⟨w.heap.size, 1, none⟩) (by simp)).trans (by simp)
  have c2 : w1.cell? ⟨w.heap.size, 2, none⟩ = some (.int .i64 (P - (z : Int))) := (hb1.cell (p := ⟨w.heap.size, 2, none⟩) (by simp)).trans (by simp)
  have T1 : Tab w1 := (hT.old (old_alloc (Below.refl _ _) _)).old hb1
  clear hT
  go_wp2_with fail
  refine (hS.out _ T1).mono ?_
  rintro e w2 ⟨hp, hb2⟩
  have c3 : w2.cell? ⟨w.heap.size, 0, none⟩ = some (.bool bl) := (hb2.cell (p := ⟨w.heap.size, 0, none⟩) z0).trans c0
  clear c0 c1 c2 T1 hS
  by_cases hf : M < 0 ∨ 255 ≤ P - M - (-149) + 1
  · obtain rfl := hp.1 hf
    have HF : Hid (M < 0 ∨ 255 ≤ P - M - (-149) + 1) := hf
    clear hp hf
    go_wp2
    go_ret2
    exact ⟨MkPost.fail HF.out, (by repeat (first | exact Below.refl _ _ | refine Below.drew ?_ | refine Below.setCell ?_ (by simp) _ | refine old_alloc ?_ _ | refine old_trans ?_ (by assumption)))⟩
  · have f1 : 0 ≤ M := by omega
    have f2 : P - M - (-149) + 1 < 255 := by omega
    obtain rfl := hp.2 f1 f2
    simp only [Bool.false_eq_true, if_false]
    have hV : ∃ V, V = (P - M - (-149)) * 8388608 + Dm := ⟨_, rfl⟩
    obtain ⟨V, hV⟩ := hV
    rw [← hV]
    have v1 : -9000000000000000000 ≤ V := by have a := HD.out (by omega); have b := HP.out; have c := HML.out; omega
    have v2 : V ≤ 9223372036854775807 := by have a := HD.out (by omega); have b := HP.out; omega
    have HV : Hid (V = (P - M - (-149)) * 8388608 + Dm) := hV
    have F1 : Hid (0 ≤ M) := f1
    have F2 : Hid (P - M - (-149) + 1 < 255) := f2
    clear hp hf hV f1 f2
    cases bl
    · go_wp2
      go_ret2
      exact ⟨MkPost.ok F1.out F2.out (by rw [HV.out]; rfl), (by repeat (first | exact Below.refl _ _ | refine Below.drew ?_ | refine Below.setCell ?_ (by simp) _ | refine old_alloc ?_ _ | refine old_trans ?_ (by assumption)))⟩
    · go_wp2
      go_ret2
      exact ⟨MkPost.ok F1.out F2.out (by rw [HV.out]; rfl), (by repeat (first | exact Below.refl _ _ | refine Below.drew ?_ | refine Below.setCell ?_ (by simp) _ | refine old_alloc ?_ _ | refine old_trans ?_ (by assumption)))⟩

set_option maxHeartbeats 1000000 in
theorem iMake_64 (o z : Nat) (P : Int) (bl : Bool) (w : World) (hT : Tab w) (ho : o % 2 = 1) (hx : o * 2 ^ z < 2 ^ 64) (pl : -2000 ≤ P - (z : Int)) (ph : P - (z : Int) ≤ 2000) (zz : z ≤ 63) :
    Calls Tryz.prog 165 #[.int .i64 64, .agg #[.bool bl, .int .u64 ((o * 2 ^ z : Nat) : Int), .int .i64 (P - (z : Int))]] w fun e w' => MkPost (-1074) 4503599627370496 2047 P (min (52 - (o.log2 : Int)) (P - (-1074))) ((o * 2 ^ (min (52 - (o.log2 : Int)) (P - (-1074))).toNat : Nat) : Int) bl e ∧ Below w.heap.size w w' := by
  have hS : Hid (∀ w, Tab w → Calls Tryz.prog 173 #[.iface 119 (.agg #[]), .int .u64 ((o * 2 ^ z : Nat) : Int), .int .i64 (P - (z : Int))] w fun e w' => MkPost (-1074) 4503599627370496 2047 P (min (52 - (o.log2 : Int)) (P - (-1074))) ((o * 2 ^ (min (52 - (o.log2 : Int)) (P - (-1074))).toNat : Nat) : Int) false e ∧ Below w.heap.size w w') := fun w h => mkSize_64 o z P w h ho hx (by omega) (by omega) zz
  have hpos : 0 < o * 2 ^ z := Nat.mul_pos (by omega) (Nat.two_pow_pos z)
  have ho0 : o ≠ 0 := by omega
  have hD : ¬ ((min (52 - (o.log2 : Int)) (P - (-1074))) < 0) → ((o * 2 ^ (min (52 - (o.log2 : Int)) (P - (-1074))).toNat : Nat) : Int) < 9007199254740992 := fun h => by
    have h1 := (mkD_lt o (min (52 - (o.log2 : Int)) (P - (-1074))).toNat 53 ho0).2 (by omega)
    have e : (((2 ^ 53 : Nat)) : Int) = 9007199254740992 := by decide
    rw [e] at h1
    exact h1
  have hDp : 0 < ((o * 2 ^ (min (52 - (o.log2 : Int)) (P - (-1074))).toNat : Nat) : Int) := by
    have : 0 < o * 2 ^ (min (52 - (o.log2 : Int)) (P - (-1074))).toNat := Nat.mul_pos (by omega) (Nat.two_pow_pos _)
    omega
  have s0 : (((o * 2 ^ z : Nat) : Int) == 0) = false := beq_eq_false_iff_ne.2 (by omega)
  have hML : (min (52 - (o.log2 : Int)) (P - (-1074))) ≤ P - (-1074) := by omega
  generalize ((o * 2 ^ z : Nat) : Int) = S at *
  generalize ((o * 2 ^ (min (52 - (o.log2 : Int)) (P - (-1074))).toNat : Nat) : Int) = Dm at *
  generalize (min (52 - (o.log2 : Int)) (P - (-1074))) = M at *
  have HD : Hid (¬ (M < 0) → Dm < 9007199254740992) := hD
  have HP : Hid (0 < Dm) := hDp
  have t1 : decide (P - (z : Int) < -2000) = false := by simp; omega
  have t2 : decide (2000 < P - (z : Int)) = false := by simp; omega
  have HML : Hid (M ≤ P - (-1074)) := hML
  clear hD hDp hpos hx ho ho0 hML
  go_enter Tryz.func165, Tryz.ntmps165
  go_wp2_with fail
  refine (formOf_64 _).mono ?_
  rintro e w1 ⟨rfl, hb1⟩
  have z0 : w.heap.size < w1.heap.size := Nat.lt_of_lt_of_le (by simp) hb1.size
  have c0 : w1.cell? ⟨w.heap.size, 0, none⟩ = some (.bool bl) := (hb1.cell (p := ⟨w.heap.size, 0, none⟩) (by simp)).trans (by simp)
  have c1 : w1.cell? ⟨w.heap.size, 1, none⟩ = some (.int .u64 S) := (hb1.cell (p := ⟨w.heap.size, 1, none⟩) (by simp)).trans (by simp)
  have c2 : w1.cell? ⟨w.heap.size, 2, none⟩ = some (.int .i64 (P - (z : Int))) := (hb1.cell (p := ⟨w.heap.size, 2, none⟩) (by simp)).trans (by simp)
  have T1 : Tab w1 := (hT.old (old_alloc (Below.refl _ _) _)).old hb1
  clear hT
  go_wp2_with fail
  refine (hS.out _ T1).mono ?_
  rintro e w2 ⟨hp, hb2⟩
  have c3 : w2.cell? ⟨w.heap.size, 0, none⟩ = some (.bool bl) := (hb2.cell (p := ⟨w.heap.size, 0, none⟩) z0).trans c0
  clear c0 c1 c2 T1 hS
  by_cases hf : M < 0 ∨ 2047 ≤ P - M - (-1074) + 1
  · obtain rfl := hp.1 hf
    have HF : Hid (M < 0 ∨ 2047 ≤ P - M - (-1074) + 1) := hf
    clear hp hf
    go_wp2
    go_ret2
    exact ⟨MkPost.fail HF.out, (by repeat (first | exact Below.refl _ _ | refine Below.drew ?_ | refine Below.setCell ?_ (by simp) _ | refine old_alloc ?_ _ | refine old_trans ?_ (by assumption)))⟩
  · have f1 : 0 ≤ M := by omega
    have f2 : P - M - (-1074) + 1 < 2047 := by omega
    obtain rfl := hp.2 f1 f2
    simp only [Bool.false_eq_true, if_false]
    have hV : ∃ V, V = (P - M - (-1074)) * 4503599627370496 + Dm := ⟨_, rfl⟩
    obtain ⟨V, hV⟩ := hV
    rw [← hV]
    have v1 : -9000000000000000000 ≤ V := by have a := HD.out (by omega); have b := HP.out; have c := HML.out; omega
    have v2 : V ≤ 9223372036854775807 := by have a := HD.out (by omega); have b := HP.out; omega
    have HV : Hid (V = (P - M - (-1074)) * 4503599627370496 + Dm) := hV
    have F1 : Hid (0 ≤ M) := f1
    have F2 : Hid (P - M - (-1074) + 1 < 2047) := f2
    clear hp hf hV f1 f2
    cases bl
    · go_wp2
      go_ret2
      exact ⟨MkPost.ok F1.out F2.out (by rw [HV.out]; rfl), (by repeat (first | exact Below.refl _ _ | refine Below.drew ?_ | refine Below.setCell ?_ (by simp) _ | refine old_alloc ?_ _ | refine old_trans ?_ (by assumption)))⟩
    · go_wp2
      go_ret2
      exact ⟨MkPost.ok F1.out F2.out (by rw [HV.out]; rfl), (by repeat (first | exact Below.refl _ _ | refine Below.drew ?_ | refine Below.setCell ?_ (by simp) _ | refine old_alloc ?_ _ | refine old_trans ?_ (by assumption)))⟩
set_option maxHeartbeats 400000 in
theorem iMake_32_zero (bl : Bool) (p : Int) (g : decide (p < -2000) = false) (h : decide (2000 < p) = false) (w : World) :
    Calls Tryz.prog 165 #[.int .i64 32, .agg #[.bool bl, .int .u64 0, .int .i64 p]] w fun e w' => e = .returned (.tuple #[.int .i64 0, .bool true]) ∧ Below w.heap.size w w' := by
  go_enter Tryz.func165, Tryz.ntmps165
  go_wp2_with fail
  refine (formOf_32 _).mono ?_
  rintro e w1 ⟨rfl, hb1⟩
  have c0 : w1.cell? ⟨w.heap.size, 0, none⟩ = some (.bool bl) := (hb1.cell (p := ⟨w.heap.size, 0, none⟩) (by simp)).trans (by simp)
  have c1 : w1.cell? ⟨w.heap.size, 1, none⟩ = some (.int .u64 0) := (hb1.cell (p := ⟨w.heap.size, 1, none⟩) (by simp)).trans (by simp)
  have c2 : w1.cell? ⟨w.heap.size, 2, none⟩ = some (.int .i64 p) := (hb1.cell (p := ⟨w.heap.size, 2, none⟩) (by simp)).trans (by simp)
  go_wp2
  go_ret2
  exact ⟨rfl, (by repeat (first | exact Below.refl _ _ | refine Below.drew ?_ | refine Below.setCell ?_ (by simp) _ | refine old_alloc ?_ _ | refine old_trans ?_ (by assumption)))⟩

set_option maxHeartbeats 400000 in
theorem iMake_64_zero (bl : Bool) (p : Int) (g : decide (p < -2000) = false) (h : decide (2000 < p) = false) (w : World) :
    Calls Tryz.prog 165 #[.int .i64 64, .agg #[.bool bl, .int .u64 0, .int .i64 p]] w fun e w' => e = .returned (.tuple #[.int .i64 0, .bool true]) ∧ Below w.heap.size w w' := by
  go_enter Tryz.func165, Tryz.ntmps165
  go_wp2_with fail
  refine (formOf_64 _).mono ?_
  rintro e w1 ⟨rfl, hb1⟩
  have c0 : w1.cell? ⟨w.heap.size, 0, none⟩ = some (.bool bl) := (hb1.cell (p := ⟨w.heap.size, 0, none⟩) (by simp)).trans (by simp)
  have c1 : w1.cell? ⟨w.heap.size, 1, none⟩ = some (.int .u64 0) := (hb1.cell (p := ⟨w.heap.size, 1, none⟩) (by simp)).trans (by simp)
  have c2 : w1.cell? ⟨w.heap.size, 2, none⟩ = some (.int .i64 p) := (hb1.cell (p := ⟨w.heap.size, 2, none⟩) (by simp)).trans (by simp)
  go_wp2
  go_ret2
  exact ⟨rfl, (by repeat (first | exact Below.refl _ _ | refine Below.drew ?_ | refine Below.setCell ?_ (by simp) _ | refine old_alloc ?_ _ | refine old_trans ?_ (by assumption)))⟩
end Go.Proofs.YtgoffjpfddmhhaaGreatDoor

/- The program's BitMake of sizes that fit and powers from the least on: there is such a float just if the power is not too great; the library's table lies as its text lays it; nothing that was there is written. -/
namespace Go.Proofs.YtgoffjpfddmhhaaGreatDoor
open Go.RowKit
set_option linter.unusedVariables false
set_option maxRecDepth 100000

theorem log2_add (o z : Nat) (h : o ≠ 0) : (o * 2 ^ z).log2 = o.log2 + z := by
  have a := Nat.log2_self_le h
  have b := Nat.lt_log2_self (n := o)
  have hp := Nat.two_pow_pos z
  have hn : o * 2 ^ z ≠ 0 := Nat.ne_of_gt (Nat.mul_pos (Nat.pos_of_ne_zero h) hp)
  refine (Nat.log2_eq_iff hn).2 ⟨?_, ?_⟩
  · rw [Nat.pow_add]; exact Nat.mul_le_mul_right _ a
  · rw [show o.log2 + z + 1 = (o.log2 + 1) + z by omega, Nat.pow_add]
    exact Nat.mul_lt_mul_of_pos_right b hp
theorem iMkHi32 (bl : Bool) (S p : Int) (h : 2000 < p) (w : World) :
    Calls Tryz.prog 165 #[.int .i64 32, .agg #[.bool bl, .int .u64 S, .int .i64 p]] w fun e w' => e = .returned (.tuple #[.int .i64 0, .bool false]) ∧ Below w.heap.size w w' := by
  have g1 : decide (p < -2000) = false := by simp; omega
  have g2 : decide (2000 < p) = true := by simpa using h
  clear h
  go_enter Tryz.func165, Tryz.ntmps165
  go_wp2_with fail
  refine (formOf_32 _).mono ?_
  rintro e w1 ⟨rfl, hb1⟩
  have c0 : w1.cell? ⟨w.heap.size, 0, none⟩ = some (.bool bl) := (hb1.cell (p := ⟨w.heap.size, 0, none⟩) (by simp)).trans (by simp)
  have c1 : w1.cell? ⟨w.heap.size, 1, none⟩ = some (.int .u64 S) := (hb1.cell (p := ⟨w.heap.size, 1, none⟩) (by simp)).trans (by simp)
  have c2 : w1.cell? ⟨w.heap.size, 2, none⟩ = some (.int .i64 p) := (hb1.cell (p := ⟨w.heap.size, 2, none⟩) (by simp)).trans (by simp)
  go_wp2
  go_ret2
  exact ⟨rfl, (by repeat (first | with_reducible exact Below.refl _ _ | with_reducible refine Below.drew ?_ | with_reducible refine old_alloc ?_ _ | with_reducible refine old_trans ?_ (by with_reducible assumption)))⟩
/-- is there such a float, and its order number -/
def mkF32 (p : Int) : Bool := decide (p - (-149) + 1 < 255)
def mkO32 (S : Nat) (p : Int) : Int := if S = 0 then 0 else if mkF32 p then (p - (-149)) * 8388608 + S else 0
theorem iMk32 (S : Nat) (p : Int) (hS : S < 16777216) (hp : -149 ≤ p) (hn : (S = 0 ∧ mkF32 p = true) ∨ p = -149 ∨ 8388608 ≤ S) (w : World) (hT : Tab w) :
    Calls Tryz.prog 165 #[.int .i64 32, .agg #[.bool false, .int .u64 (S : Int), .int .i64 p]] w fun e w' => e = .returned (.tuple #[.int .i64 (mkO32 S p), .bool (mkF32 p)]) ∧ Below w.heap.size w w' := by
  by_cases c0 : S = 0
  · have f : mkF32 p = true := by
      rcases hn with h | h | h
      · exact h.2
      · subst h; decide
      · omega
    have f' : p - (-149) + 1 < 255 := of_decide_eq_true f
    have o : mkO32 S p = 0 := if_pos c0
    rw [o, f]
    subst c0
    exact iMake_32_zero false p (by simp; omega) (by simp; omega) w
  by_cases c1 : 2000 < p
  · have f : mkF32 p = false := by unfold mkF32; exact decide_eq_false (by omega)
    have o : mkO32 S p = 0 := by unfold mkO32; rw [f, if_neg c0]; rfl
    rw [f, o]
    exact iMkHi32 false _ p c1 w
  obtain ⟨o, ho, e⟩ := twosOf_ex c0
  have pw2 : (2 : Nat) ^ 24 = 16777216 := by decide
  have zl : twosOf S < 24 := twosOf_lt c0 (by omega)
  generalize hz' : twosOf S = z at *
  have o0 : o ≠ 0 := by omega
  have lg : o.log2 + z < 24 := by
    rw [← log2_add o z o0, ← e]
    refine (Nat.log2_lt c0).2 ?_
    have : (2 : Nat) ^ 24 = 16777216 := by decide
    omega
  have lt : o * 2 ^ z < 2 ^ 64 := by
    rw [← e]
    have : (2 : Nat) ^ 64 = 18446744073709551616 := by decide
    omega
  have H := iMake_32 o z (p + z) false w hT ho lt (by omega) (by omega) (by omega)
  have lg2 : 8388608 ≤ S → 23 ≤ o.log2 + z := fun h => by
    rw [← log2_add o z o0, ← e]
    refine (Nat.le_log2 c0).2 ?_
    have : (2 : Nat) ^ 23 = 8388608 := by decide
    omega
  have em : min (23 - (o.log2 : Int)) (p + z - (-149)) = (z : Int) := by omega
  rw [em, Int.toNat_natCast, ← e, show p + (z : Int) - (z : Int) = p by omega] at H
  refine H.mono ?_
  rintro e2 w' ⟨⟨h1, h2⟩, hb⟩
  refine ⟨?_, hb⟩
  by_cases c2 : p - (-149) + 1 < 255
  · have f : mkF32 p = true := decide_eq_true c2
    have q := h2 (by omega) (by omega)
    have o : mkO32 S p = (p - (-149)) * 8388608 + S := by unfold mkO32; rw [f, if_neg c0]; rfl
    rw [f, o, q, show p + (z : Int) - (z : Int) = p by omega]
    rfl
  · have f : mkF32 p = false := decide_eq_false c2
    have q := h1 (.inr (by omega))
    have o : mkO32 S p = 0 := by unfold mkO32; rw [f, if_neg c0]; rfl
    rw [f, o, q]
theorem iMkHi64 (bl : Bool) (S p : Int) (h : 2000 < p) (w : World) :
    Calls Tryz.prog 165 #[.int .i64 64, .agg #[.bool bl, .int .u64 S, .int .i64 p]] w fun e w' => e = .returned (.tuple #[.int .i64 0, .bool false]) ∧ Below w.heap.size w w' := by
  have g1 : decide (p < -2000) = false := by simp; omega
  have g2 : decide (2000 < p) = true := by simpa using h
  clear h
  go_enter Tryz.func165, Tryz.ntmps165
  go_wp2_with fail
  refine (formOf_64 _).mono ?_
  rintro e w1 ⟨rfl, hb1⟩
  have c0 : w1.cell? ⟨w.heap.size, 0, none⟩ = some (.bool bl) := (hb1.cell (p := ⟨w.heap.size, 0, none⟩) (by simp)).trans (by simp)
  have c1 : w1.cell? ⟨w.heap.size, 1, none⟩ = some (.int .u64 S) := (hb1.cell (p := ⟨w.heap.size, 1, none⟩) (by simp)).trans (by simp)
  have c2 : w1.cell? ⟨w.heap.size, 2, none⟩ = some (.int .i64 p) := (hb1.cell (p := ⟨w.heap.size, 2, none⟩) (by simp)).trans (by simp)
  go_wp2
  go_ret2
  exact ⟨rfl, (by repeat (first | with_reducible exact Below.refl _ _ | with_reducible refine Below.drew ?_ | with_reducible refine old_alloc ?_ _ | with_reducible refine old_trans ?_ (by with_reducible assumption)))⟩
/-- is there such a float, and its order number -/
def mkF64 (p : Int) : Bool := decide (p - (-1074) + 1 < 2047)
def mkO64 (S : Nat) (p : Int) : Int := if S = 0 then 0 else if mkF64 p then (p - (-1074)) * 4503599627370496 + S else 0
theorem iMk64 (S : Nat) (p : Int) (hS : S < 9007199254740992) (hp : -1074 ≤ p) (hn : (S = 0 ∧ mkF64 p = true) ∨ p = -1074 ∨ 4503599627370496 ≤ S) (w : World) (hT : Tab w) :
    Calls Tryz.prog 165 #[.int .i64 64, .agg #[.bool false, .int .u64 (S : Int), .int .i64 p]] w fun e w' => e = .returned (.tuple #[.int .i64 (mkO64 S p), .bool (mkF64 p)]) ∧ Below w.heap.size w w' := by
  by_cases c0 : S = 0
  · have f : mkF64 p = true := by
      rcases hn with h | h | h
      · exact h.2
      · subst h; decide
      · omega
    have f' : p - (-1074) + 1 < 2047 := of_decide_eq_true f
    have o : mkO64 S p = 0 := if_pos c0
    rw [o, f]
    subst c0
    exact iMake_64_zero false p (by simp; omega) (by simp; omega) w
  by_cases c1 : 2000 < p
  · have f : mkF64 p = false := by unfold mkF64; exact decide_eq_false (by omega)
    have o : mkO64 S p = 0 := by unfold mkO64; rw [f, if_neg c0]; rfl
    rw [f, o]
    exact iMkHi64 false _ p c1 w
  obtain ⟨o, ho, e⟩ := twosOf_ex c0
  have pw2 : (2 : Nat) ^ 53 = 9007199254740992 := by decide
  have zl : twosOf S < 53 := twosOf_lt c0 (by omega)
  generalize hz' : twosOf S = z at *
  have o0 : o ≠ 0 := by omega
  have lg : o.log2 + z < 53 := by
    rw [← log2_add o z o0, ← e]
    refine (Nat.log2_lt c0).2 ?_
    have : (2 : Nat) ^ 53 = 9007199254740992 := by decide
    omega
  have lt : o * 2 ^ z < 2 ^ 64 := by
    rw [← e]
    have : (2 : Nat) ^ 64 = 18446744073709551616 := by decide
    omega
  have H := iMake_64 o z (p + z) false w hT ho lt (by omega) (by omega) (by omega)
  have lg2 : 4503599627370496 ≤ S → 52 ≤ o.log2 + z := fun h => by
    rw [← log2_add o z o0, ← e]
    refine (Nat.le_log2 c0).2 ?_
    have : (2 : Nat) ^ 52 = 4503599627370496 := by decide
    omega
  have em : min (52 - (o.log2 : Int)) (p + z - (-1074)) = (z : Int) := by omega
  rw [em, Int.toNat_natCast, ← e, show p + (z : Int) - (z : Int) = p by omega] at H
  refine H.mono ?_
  rintro e2 w' ⟨⟨h1, h2⟩, hb⟩
  refine ⟨?_, hb⟩
  by_cases c2 : p - (-1074) + 1 < 2047
  · have f : mkF64 p = true := decide_eq_true c2
    have q := h2 (by omega) (by omega)
    have o : mkO64 S p = (p - (-1074)) * 4503599627370496 + S := by unfold mkO64; rw [f, if_neg c0]; rfl
    rw [f, o, q, show p + (z : Int) - (z : Int) = p by omega]
    rfl
  · have f : mkF64 p = false := decide_eq_false c2
    have q := h1 (.inr (by omega))
    have o : mkO64 S p = 0 := by unfold mkO64; rw [f, if_neg c0]; rfl
    rw [f, o, q]
end Go.Proofs.YtgoffjpfddmhhaaGreatDoor
