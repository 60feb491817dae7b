/- The contract of the laws' pbLess at two parts of one sign: two sizes are doubled up to 63 bits and compared with their powers. -/
import Derived.Test.YtljmmaaaeojbpaaPA
import Derived.RegionTactic
import Derived.ChangeAlike
import Derived.Deep.QuietTactic
import Derived.BigQuiet
namespace Go.Proofs.Ytljmmaaaeojbpaa
open Go.RowKit


set_option maxHeartbeats 4000000 in
theorem pb_neg (P Q I J : Int) (K M : Nat) (D E : Nat → Int) (r : Bool) (w : World) (p1 : 0 < P) (q1 : 0 < Q) (i1 : -2000 ≤ I) (i2 : I ≤ 2000) (j1 : -2000 ≤ J) (j2 : J ≤ 2000) (kk : K ≤ 63) (mm : M ≤ 63)
    (D0 : Hid (D 0 = Q)) (DS : Hid (∀ k, D (k + 1) = D k * 2)) (DP : Hid (∀ k, 0 < D k)) (DL : Hid (∀ k, k < K → D k < 9223372036854775808)) (DG : Hid (9223372036854775808 ≤ D K))
    (E0 : Hid (E 0 = P)) (ES : Hid (∀ k, E (k + 1) = E k * 2)) (EP : Hid (∀ k, 0 < E k)) (EL : Hid (∀ k, k < M → E k < 9223372036854775808)) (EG : Hid (9223372036854775808 ≤ E M))
    (hr : Hid (r = (decide (J - K < I - M) || (J - K == I - M && decide (D K < E M))))) :
    Calls Try.prog 23 #[.agg #[.bool true, .int .u64 P, .int .i64 I], .agg #[.bool true, .int .u64 Q, .int .i64 J]] w fun e w' => e = .returned (.bool r) ∧ Below w.heap.size w w' := by
  have t1 : (P == 0) = false := by simp; omega
  have t2 : (Q == 0) = false := by simp; omega
  go_enter Try.func23, Try.ntmps23
  go_wp2
  go_region
  all_goals go_wp2
  all_goals go_region
  all_goals go_wp2
  all_goals go_quiet (fail)
  all_goals go_wp2
  all_goals go_quiet (fail)
  all_goals go_wp2
  all_goals
    go_loop [7, 9] (fun a b => ∃ k : Nat, k ≤ K ∧ a = .int .u64 (D k) ∧ b = .int .i64 (J - k)) (fun _ b => (intOf b + 3000).toNat)
    case atStart => exact ⟨0, Nat.zero_le _, by rw [D0.out], by simp⟩
    case round =>
      obtain ⟨k, hk, rfl, rfl⟩ := hrel
      have d0 := DP.out k
      by_cases hlt : k < K
      · have d1 := DL.out k hlt
        have d2 : Hid (D (k + 1) = D k * 2) := DS.out k
        go_wp2
        go_round
        case rel => exact ⟨k + 1, by omega, by rw [d2.out], by go_num⟩
        case measure => simp [intOf]; omega
      · have e : k = K := by omega
        subst e
        have d1 := DG.out
        go_wp2
        go_loop [8, 10] (fun a b => ∃ k : Nat, k ≤ M ∧ a = .int .u64 (E k) ∧ b = .int .i64 (I - k)) (fun _ b => (intOf b + 3000).toNat)
        case atStart => exact ⟨0, Nat.zero_le _, by rw [E0.out], by simp⟩
        case round =>
          obtain ⟨m, hm, rfl, rfl⟩ := hrel
          have e0 := EP.out m
          by_cases hlm : m < M
          · have e1 := EL.out m hlm
            have e2 : Hid (E (m + 1) = E m * 2) := ES.out m
            go_wp2
            go_round
            case rel => exact ⟨m + 1, by omega, by rw [e2.out], by go_num⟩
            case measure => simp [intOf]; omega
          · have e : m = M := by omega
            subst e
            have e1 := EG.out
            have hr' := hr
            by_cases c1 : J - (k : Int) < I - m
            · have u1 : decide (J - (k : Int) < I - m) = true := by simpa using c1
              have er : Hid (r = true) := by show _ = _; rw [hr.out, u1]; rfl
              go_wp2
              go_ret
              exact ⟨ret_bool er.out.symm, (by repeat (first | exact Below.refl _ _ | refine Below.drew ?_ | refine below_drewN ?_ _ | refine Below.setCell ?_ (by simp <;> omega) _ | refine old_alloc ?_ _ | refine old_trans ?_ (by assumption)))⟩
            · have u1 : decide (J - (k : Int) < I - m) = false := by simpa using c1
              by_cases c2 : J - (k : Int) = I - m
              · have u2 : ((J - (k : Int)) == (I - (m : Int))) = true := by simpa using c2
                have er : Hid (r = decide (D k < E m)) := by show _ = _; rw [hr.out, u1, u2]; rfl
                clear c1 c2
                go_wp2
                go_ret
                exact ⟨ret_bool er.out.symm, (by repeat (first | exact Below.refl _ _ | refine Below.drew ?_ | refine below_drewN ?_ _ | refine Below.setCell ?_ (by simp <;> omega) _ | refine old_alloc ?_ _ | refine old_trans ?_ (by assumption)))⟩
              · have u2 : ((J - (k : Int)) == (I - (m : Int))) = false := by simpa using c2
                have er : Hid (r = false) := by show _ = _; rw [hr.out, u1, u2]; rfl
                clear c1 c2
                go_wp2
                go_ret
                exact ⟨ret_bool er.out.symm, (by repeat (first | exact Below.refl _ _ | refine Below.drew ?_ | refine below_drewN ?_ _ | refine Below.setCell ?_ (by simp <;> omega) _ | refine old_alloc ?_ _ | refine old_trans ?_ (by assumption)))⟩
end Go.Proofs.Ytljmmaaaeojbpaa
