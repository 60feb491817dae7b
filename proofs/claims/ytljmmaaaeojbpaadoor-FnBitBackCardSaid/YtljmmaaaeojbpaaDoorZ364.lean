/- The contract of the specification's BitMake at width 64, of every size above 0 and every power that it takes: whether there is such a float, and its order number; nothing that was there is written. -/
import Derived.Test.YtljmmaaaeojbpaaDoorZ0
import Derived.Test.YtljmmaaaeojbpaaDoorW2
namespace Go.Proofs.YtljmmaaaeojbpaaDoor
open Go.RowKit

set_option maxRecDepth 100000 in
set_option maxHeartbeats 8000000 in
theorem sMk_64 (z : Nat) (P sp m : Int) (D : Nat → Int) (bl : Bool) (w : World) (pl : -2000 ≤ P - (z : Int)) (ph : P - (z : Int) ≤ 2000) (zz : z ≤ 63) (Dm : Int) (hD : Hid (Dm = D m.toNat)) (hm : Hid (m = min sp (P - (-1074)))) (s1 : -64 ≤ sp) (s2 : sp ≤ 64)
    (DO : Hid ((D 0 % 2 == 0) = false)) (DS : Hid (∀ k, D (k + 1) = D k * 2)) (DP : Hid (∀ k, 0 < D k)) (DZ : Hid (∀ k, k ≤ z → D k < 18446744073709551616)) (DU : Hid (∀ k : Nat, D k < 4503599627370496 ↔ (k : Int) < sp)) (D2 : Hid (∀ k : Nat, D k < 9007199254740992 ↔ (k : Int) ≤ sp)) :
    Calls Tryd.prog 13 #[.int .i64 64, .agg #[.bool bl, .int .u64 (D z), .int .i64 (P - (z : Int))]] w fun e w' =>
      MkPost (-1074) 4503599627370496 2047 P m Dm bl e ∧ Below w.heap.size w w' := by
  have dz := DP.out z
  have t0 : (D z == 0) = false := by simp; omega
  have t1 : decide (P - (z : Int) < -2000) = false := by simp; omega
  have t2 : decide (2000 < P - (z : Int)) = false := by simp; omega
  have b3 : P ≤ 2063 := by omega
  have b4 : -2000 ≤ P := by omega
  go_enter Tryd.func13, Tryd.ntmps13
  go_wp2
  go_loop [6, 7] (fun a b => ∃ j : Nat, j ≤ z ∧ a = .int .u64 (D j) ∧ b = .int .i64 (P - j)) (fun _ b => (P - intOf b).toNat)
  case atStart => exact ⟨z, Nat.le_refl _, rfl, rfl⟩
  case round =>
    obtain ⟨j, hjz, rfl, rfl⟩ := hrel
    have dj := DP.out j
    have dj2 := DZ.out j hjz
    by_cases h0 : j = 0
    · subst h0
      have od := DO.out
      go_wp2
      go_loop [6, 7] (fun a b => ∃ i : Nat, ((m < 0 → i = 0) ∧ (0 ≤ m → (i : Int) ≤ m)) ∧ a = .int .u64 (D i) ∧ b = .int .i64 (P - i)) (fun _ b => (intOf b + 5000).toNat)
      case atStart => exact ⟨0, ⟨fun _ => rfl, fun h => by simpa using h⟩, rfl, by first | rfl | simp | go_num⟩
      case round =>
        obtain ⟨i, hi, rfl, rfl⟩ := hrel
        have d0 := DP.out i
        have u1 := DU.out i
        have u2 := D2.out i
        by_cases c : (i : Int) < sp ∧ (i : Int) < P - (-1074)
        · have e2 : Hid (D (i + 1) = D i * 2) := DS.out i
          have d1 : D i < 4503599627370496 := u1.2 c.1
          have f1 : decide (D i < 4503599627370496) = true := by simpa using d1
          have b2 : -1074 < P - (i : Int) := by omega
          have f2 : decide (-1074 < P - (i : Int)) = true := by simpa using b2
          have hi' : Hid ((m < 0 → i + 1 = 0) ∧ (0 ≤ m → ((i + 1 : Nat) : Int) ≤ m)) := by
            show _ ∧ _
            have q := hm.out
            constructor
            · intro h; omega
            · intro h; omega
          clear u1 u2 c hi
          go_wp2
          go_round
          case rel => exact ⟨i + 1, hi'.out, by rw [e2.out], by go_num⟩
          case measure => simp [intOf]; omega
        · by_cases c1 : sp < (i : Int)
          · have x1 : 9007199254740992 ≤ D i := by have := mt u2.1 (by omega); omega
            have f1 : decide (D i < 4503599627370496) = false := by simp; omega
            have f2 : decide (9007199254740992 ≤ D i) = true := by simpa using x1
            have hf : Hid (m < 0) := by show _ < _; have q := hm.out; omega
            clear u1 u2 c hi
            go_wp2
            go_ret2
            exact ⟨MkPost.fail (.inl hf.out), (by repeat (first | exact Below.refl _ _ | refine Below.drew ?_ | refine Below.setCell ?_ (by simp) _ | refine old_alloc ?_ _ | refine old_trans ?_ (by assumption)))⟩
          · have y1 : D i < 9007199254740992 := u2.2 (by omega)
            have f2 : decide (9007199254740992 ≤ D i) = false := by simp; omega
            by_cases c2 : P - (i : Int) < -1074
            · have f3 : decide (P - (i : Int) < -1074) = true := by simpa using c2
              have f4 : decide (-1074 < P - (i : Int)) = false := by simp; omega
              have hf : Hid (m < 0) := by show _ < _; have q := hm.out; omega
              by_cases c3 : D i < 4503599627370496
              · have f1 : decide (D i < 4503599627370496) = true := by simpa using c3
                clear u1 u2 c hi
                go_wp2
                go_ret2
                exact ⟨MkPost.fail (.inl hf.out), (by repeat (first | exact Below.refl _ _ | refine Below.drew ?_ | refine Below.setCell ?_ (by simp) _ | refine old_alloc ?_ _ | refine old_trans ?_ (by assumption)))⟩
              · have f1 : decide (D i < 4503599627370496) = false := by simpa using c3
                clear u1 u2 c hi
                go_wp2
                go_ret2
                exact ⟨MkPost.fail (.inl hf.out), (by repeat (first | exact Below.refl _ _ | refine Below.drew ?_ | refine Below.setCell ?_ (by simp) _ | refine old_alloc ?_ _ | refine old_trans ?_ (by assumption)))⟩
            · have f3 : decide (P - (i : Int) < -1074) = false := by simpa using c2
              have em : Hid ((i : Int) = m) := by show _ = _; have q := hm.out; omega
              by_cases c3 : D i < 4503599627370496
              · have f1 : decide (D i < 4503599627370496) = true := by simpa using c3
                have f5 : decide (4503599627370496 ≤ D i) = false := by simp; omega
                have g1 := u1.1 c3
                have f4 : decide (-1074 < P - (i : Int)) = false := by simp; omega
                have ep : Hid (P - (i : Int) = -1074) := by show _ = _; omega
                clear u1 u2 c hi
                cases bl
                · go_wp2
                  go_ret2
                  have h1 := em.out
                  have h2 := ep.out
                  have h3 := hD.out
                  rw [← h1, Int.toNat_natCast] at h3
                  exact ⟨MkPost.ok (by omega) (by omega) (by simp only [Bool.false_eq_true, if_false]; omega), (by repeat (first | exact Below.refl _ _ | refine Below.drew ?_ | refine Below.setCell ?_ (by simp) _ | refine old_alloc ?_ _ | refine old_trans ?_ (by assumption)))⟩
                · go_wp2
                  go_ret2
                  have h1 := em.out
                  have h2 := ep.out
                  have h3 := hD.out
                  rw [← h1, Int.toNat_natCast] at h3
                  exact ⟨MkPost.ok (by omega) (by omega) (by simp only [if_true]; omega), (by repeat (first | exact Below.refl _ _ | refine Below.drew ?_ | refine Below.setCell ?_ (by simp) _ | refine old_alloc ?_ _ | refine old_trans ?_ (by assumption)))⟩
              · have f1 : decide (D i < 4503599627370496) = false := by simpa using c3
                have f5 : decide (4503599627370496 ≤ D i) = true := by simp; omega
                have b1 : -1074 ≤ P - (i : Int) := by omega
                clear u1 u2 c hi c1
                by_cases c4 : 2046 < P - (i : Int) - (-1074) + 1
                · go_wp2
                  go_ret2
                  have h1 := em.out
                  exact ⟨MkPost.fail (.inr (by omega)), (by repeat (first | exact Below.refl _ _ | refine Below.drew ?_ | refine Below.setCell ?_ (by simp) _ | refine old_alloc ?_ _ | refine old_trans ?_ (by assumption)))⟩
                · cases bl
                  · go_wp2
                    go_ret2
                    have h1 := em.out
                    have h3 := hD.out
                    rw [← h1, Int.toNat_natCast] at h3
                    exact ⟨MkPost.ok (by omega) (by omega) (by simp only [Bool.false_eq_true, if_false]; omega), (by repeat (first | exact Below.refl _ _ | refine Below.drew ?_ | refine Below.setCell ?_ (by simp) _ | refine old_alloc ?_ _ | refine old_trans ?_ (by assumption)))⟩
                  · go_wp2
                    go_ret2
                    have h1 := em.out
                    have h3 := hD.out
                    rw [← h1, Int.toNat_natCast] at h3
                    exact ⟨MkPost.ok (by omega) (by omega) (by simp only [if_true]; omega), (by repeat (first | exact Below.refl _ _ | refine Below.drew ?_ | refine Below.setCell ?_ (by simp) _ | refine old_alloc ?_ _ | refine old_trans ?_ (by assumption)))⟩


    · obtain ⟨i, rfl⟩ : ∃ i, j = i + 1 := ⟨j - 1, by omega⟩
      have es : D (i + 1) = D i * 2 := DS.out i
      have od : (D (i + 1) % 2 == 0) = true := by rw [es]; simp
      have hv : Hid (D (i + 1) / 2 = D i) := by show _ = _; rw [es]; omega
      have u2 := D2.out (i + 1)
      clear es
      by_cases c1 : D (i + 1) < 9007199254740992
      · have f1 : decide (9007199254740992 ≤ D (i + 1)) = false := by simp; omega
        by_cases c2 : P - ((i + 1 : Nat) : Int) < -1074
        · have f2 : decide (P - ((i + 1 : Nat) : Int) < -1074) = true := by simpa using c2
          clear u2 c1
          go_wp2
          go_round
          case rel => exact ⟨i, by omega, by rw [hv.out], by first | go_num | (congr 1; omega)⟩
          case measure => simp [intOf]; omega
        · have f2 : decide (P - ((i + 1 : Nat) : Int) < -1074) = false := by simpa using c2
          have g := u2.1 c1
          have g2 : -1074 ≤ P - ((i + 1 : Nat) : Int) := by omega
          clear u2 hv
          go_wp2
          go_loop [6, 7] (fun a b => ∃ i : Nat, ((m < 0 → i = 0) ∧ (0 ≤ m → (i : Int) ≤ m)) ∧ a = .int .u64 (D i) ∧ b = .int .i64 (P - i)) (fun _ b => (intOf b + 5000).toNat)
          case atStart => exact ⟨i + 1, ⟨fun h => by have q := hm.out; omega, fun h => by have q := hm.out; omega⟩, rfl, by first | rfl | simp | go_num⟩
          case round =>
            obtain ⟨i, hi, rfl, rfl⟩ := hrel
            have d0 := DP.out i
            have u1 := DU.out i
            have u2 := D2.out i
            by_cases c : (i : Int) < sp ∧ (i : Int) < P - (-1074)
            · have e2 : Hid (D (i + 1) = D i * 2) := DS.out i
              have d1 : D i < 4503599627370496 := u1.2 c.1
              have f1 : decide (D i < 4503599627370496) = true := by simpa using d1
              have b2 : -1074 < P - (i : Int) := by omega
              have f2 : decide (-1074 < P - (i : Int)) = true := by simpa using b2
              have hi' : Hid ((m < 0 → i + 1 = 0) ∧ (0 ≤ m → ((i + 1 : Nat) : Int) ≤ m)) := by
                show _ ∧ _
                have q := hm.out
                constructor
                · intro h; omega
                · intro h; omega
              clear u1 u2 c hi
              go_wp2
              go_round
              case rel => exact ⟨i + 1, hi'.out, by rw [e2.out], by go_num⟩
              case measure => simp [intOf]; omega
            · by_cases c1 : sp < (i : Int)
              · have x1 : 9007199254740992 ≤ D i := by have := mt u2.1 (by omega); omega
                have f1 : decide (D i < 4503599627370496) = false := by simp; omega
                have f2 : decide (9007199254740992 ≤ D i) = true := by simpa using x1
                have hf : Hid (m < 0) := by show _ < _; have q := hm.out; omega
                clear u1 u2 c hi
                go_wp2
                go_ret2
                exact ⟨MkPost.fail (.inl hf.out), (by repeat (first | exact Below.refl _ _ | refine Below.drew ?_ | refine Below.setCell ?_ (by simp) _ | refine old_alloc ?_ _ | refine old_trans ?_ (by assumption)))⟩
              · have y1 : D i < 9007199254740992 := u2.2 (by omega)
                have f2 : decide (9007199254740992 ≤ D i) = false := by simp; omega
                by_cases c2 : P - (i : Int) < -1074
                · have f3 : decide (P - (i : Int) < -1074) = true := by simpa using c2
                  have f4 : decide (-1074 < P - (i : Int)) = false := by simp; omega
                  have hf : Hid (m < 0) := by show _ < _; have q := hm.out; omega
                  by_cases c3 : D i < 4503599627370496
                  · have f1 : decide (D i < 4503599627370496) = true := by simpa using c3
                    clear u1 u2 c hi
                    go_wp2
                    go_ret2
                    exact ⟨MkPost.fail (.inl hf.out), (by repeat (first | exact Below.refl _ _ | refine Below.drew ?_ | refine Below.setCell ?_ (by simp) _ | refine old_alloc ?_ _ | refine old_trans ?_ (by assumption)))⟩
                  · have f1 : decide (D i < 4503599627370496) = false := by simpa using c3
                    clear u1 u2 c hi
                    go_wp2
                    go_ret2
                    exact ⟨MkPost.fail (.inl hf.out), (by repeat (first | exact Below.refl _ _ | refine Below.drew ?_ | refine Below.setCell ?_ (by simp) _ | refine old_alloc ?_ _ | refine old_trans ?_ (by assumption)))⟩
                · have f3 : decide (P - (i : Int) < -1074) = false := by simpa using c2
                  have em : Hid ((i : Int) = m) := by show _ = _; have q := hm.out; omega
                  by_cases c3 : D i < 4503599627370496
                  · have f1 : decide (D i < 4503599627370496) = true := by simpa using c3
                    have f5 : decide (4503599627370496 ≤ D i) = false := by simp; omega
                    have g1 := u1.1 c3
                    have f4 : decide (-1074 < P - (i : Int)) = false := by simp; omega
                    have ep : Hid (P - (i : Int) = -1074) := by show _ = _; omega
                    clear u1 u2 c hi
                    cases bl
                    · go_wp2
                      go_ret2
                      have h1 := em.out
                      have h2 := ep.out
                      have h3 := hD.out
                      rw [← h1, Int.toNat_natCast] at h3
                      exact ⟨MkPost.ok (by omega) (by omega) (by simp only [Bool.false_eq_true, if_false]; omega), (by repeat (first | exact Below.refl _ _ | refine Below.drew ?_ | refine Below.setCell ?_ (by simp) _ | refine old_alloc ?_ _ | refine old_trans ?_ (by assumption)))⟩
                    · go_wp2
                      go_ret2
                      have h1 := em.out
                      have h2 := ep.out
                      have h3 := hD.out
                      rw [← h1, Int.toNat_natCast] at h3
                      exact ⟨MkPost.ok (by omega) (by omega) (by simp only [if_true]; omega), (by repeat (first | exact Below.refl _ _ | refine Below.drew ?_ | refine Below.setCell ?_ (by simp) _ | refine old_alloc ?_ _ | refine old_trans ?_ (by assumption)))⟩
                  · have f1 : decide (D i < 4503599627370496) = false := by simpa using c3
                    have f5 : decide (4503599627370496 ≤ D i) = true := by simp; omega
                    have b1 : -1074 ≤ P - (i : Int) := by omega
                    clear u1 u2 c hi c1
                    by_cases c4 : 2046 < P - (i : Int) - (-1074) + 1
                    · go_wp2
                      go_ret2
                      have h1 := em.out
                      exact ⟨MkPost.fail (.inr (by omega)), (by repeat (first | exact Below.refl _ _ | refine Below.drew ?_ | refine Below.setCell ?_ (by simp) _ | refine old_alloc ?_ _ | refine old_trans ?_ (by assumption)))⟩
                    · cases bl
                      · go_wp2
                        go_ret2
                        have h1 := em.out
                        have h3 := hD.out
                        rw [← h1, Int.toNat_natCast] at h3
                        exact ⟨MkPost.ok (by omega) (by omega) (by simp only [Bool.false_eq_true, if_false]; omega), (by repeat (first | exact Below.refl _ _ | refine Below.drew ?_ | refine Below.setCell ?_ (by simp) _ | refine old_alloc ?_ _ | refine old_trans ?_ (by assumption)))⟩
                      · go_wp2
                        go_ret2
                        have h1 := em.out
                        have h3 := hD.out
                        rw [← h1, Int.toNat_natCast] at h3
                        exact ⟨MkPost.ok (by omega) (by omega) (by simp only [if_true]; omega), (by repeat (first | exact Below.refl _ _ | refine Below.drew ?_ | refine Below.setCell ?_ (by simp) _ | refine old_alloc ?_ _ | refine old_trans ?_ (by assumption)))⟩


      · have f1 : decide (9007199254740992 ≤ D (i + 1)) = true := by simp; omega
        clear u2 c1
        go_wp2
        go_round
        case rel => exact ⟨i, by omega, by rw [hv.out], by first | go_num | (congr 1; omega)⟩
        case measure => simp [intOf]; omega
end Go.Proofs.YtljmmaaaeojbpaaDoor
