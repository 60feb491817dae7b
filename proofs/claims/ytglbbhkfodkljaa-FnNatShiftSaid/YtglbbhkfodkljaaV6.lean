/- Shifts of numbers, if they are numbers: by the program and by the specification. No condition. -/
import Derived.Test.YtglbbhkfodkljaaBE
import Derived.Test.YtglbbhkfodkljaaV5
import Derived.Test.YtglbbhkfodkljaaBC
namespace Go.Proofs.Ytglbbhkfodkljaa
open Go.RowKit
set_option linter.unusedVariables false

set_option maxRecDepth 100000 in
set_option maxHeartbeats 2000000 in
theorem iShifted (a : Option Addr) (len cap : Nat) (xs : List Int) (k : Int) (w : World) (hR : InI w a len cap xs) (hx : digs xs) (hl : len ≤ 65536) (hk : -16384 ≤ k ∧ k ≤ 16384) :
    Calls Try.prog 37 #[.slice a len cap, .int .i64 k] w fun e w' => (∃ av cv, e = .returned (.slice av (natL (shV (val xs) k)).length cv) ∧ OI w' w.heap.size av cv (natL (shV (val xs) k))) ∧ Below w.heap.size w w' := by
  by_cases h0 : 0 ≤ k
  · obtain ⟨n, rfl⟩ := Int.eq_ofNat_of_zero_le h0
    have e : shV (val xs) (n : Int) = val xs * 2 ^ n := by unfold shV; rw [if_pos h0, Int.toNat_natCast]
    rw [e]
    obtain ⟨P, p, rfl, hp⟩ := split16q n
    rw [pow2_split, Nat.mul_comm (val xs)]
    have M := hd (iUp a len cap xs P p w hR hx hp (by omega) (by omega))
    rw [show (((16 * P + p : Nat) : Int)) = 16 * (P : Int) + (p : Int) by omega] at h0 hk ⊢
    generalize natL (65536 ^ P * 2 ^ p * val xs) = ql at *
    generalize 16 * (P : Int) + (p : Int) = K at *
    clear e
    go_enter Try.func37, Try.ntmps37
    go_wp2_with fail
    refine M.out.mono ?_
    rintro e w1 ⟨⟨av, cv, rfl, hO⟩, hb1⟩
    go_wp2
    go_ret
    exact ⟨⟨_, _, rfl, hO⟩, hb1⟩
  · obtain ⟨n, hn⟩ := Int.eq_ofNat_of_zero_le (show 0 ≤ -k by omega)
    have e : shV (val xs) k = val xs / 2 ^ n := by unfold shV; rw [if_neg h0, hn, Int.toNat_natCast]
    rw [e]
    obtain ⟨P, p, rfl, hp⟩ := split16q n
    rw [pow2_split]
    have M := hd (iDown a len cap xs P p w hR hx hp (by omega) (by omega))
    have hkn : -k = 16 * (P : Int) + (p : Int) := by omega
    rw [← hkn] at M
    clear hn hkn e
    generalize natL (val xs / (65536 ^ P * 2 ^ p)) = ql at *
    go_enter Try.func37, Try.ntmps37
    go_wp2_with fail
    refine M.out.mono ?_
    rintro e w1 ⟨⟨av, cv, rfl, hO⟩, hb1⟩
    go_wp2
    go_ret
    exact ⟨⟨_, _, rfl, hO⟩, hb1⟩
def shiftB (xs : List Int) (k : Int) : Bool := natOk xs && (decide (-4096 ≤ k ∧ k ≤ 4096) && fitsB (shV (val xs) k))
theorem shiftB_fits {xs : List Int} {k : Int} : shiftB xs k = true → fitsB (shV (val xs) k) = true := by
  unfold shiftB
  intro h
  simp only [Bool.and_eq_true] at h
  exact h.2.2
set_option maxHeartbeats 2000000 in
theorem iNatShift (a : Option Addr) (len cap : Nat) (xs : List Int) (k : Int) (hkk : -9223372036854775808 ≤ k ∧ k ≤ 9223372036854775807) (w : World) (hR : InI w a len cap xs) :
    Calls Try.prog 16 #[.slice a len cap, .int .i64 k] w fun e w' => (∃ av cv, e = .returned (.tuple #[.slice av (resN (shiftB xs k) (shV (val xs) k)).length cv, .bool (shiftB xs k)]) ∧ OI w' w.heap.size av cv (resN (shiftB xs k) (shV (val xs) k))) ∧ Below w.heap.size w w' := by
  have hlen := hR.len
  have K1 := hd (iNatOk a len cap xs w hR)
  cases h1 : natOk xs
  · have e : shiftB xs k = false := by unfold shiftB; rw [h1]; rfl
    rw [e]
    show Calls _ _ _ _ fun e w' => (∃ av cv, e = .returned (.tuple #[.slice av 0 cv, .bool false]) ∧ OI w' w.heap.size av cv []) ∧ Below w.heap.size w w'
    rw [h1] at K1
    clear e h1
    go_enter Try.func16, Try.ntmps16
    go_wp2_with fail
    refine K1.out.mono ?_
    rintro e w1 ⟨rfl, rfl⟩
    go_wp2
    go_ret2
    exact ⟨⟨_, _, rfl, OI.none _ _⟩, Below.refl _ _⟩
  rw [h1] at K1
  by_cases hn : -4096 ≤ k ∧ k ≤ 4096
  case neg =>
    have e : shiftB xs k = false := by unfold shiftB; rw [h1, decide_eq_false hn]; rfl
    rw [e]
    show Calls _ _ _ _ fun e w' => (∃ av cv, e = .returned (.tuple #[.slice av 0 cv, .bool false]) ∧ OI w' w.heap.size av cv []) ∧ Below w.heap.size w w'
    clear e h1
    have hcase : k < -4096 ∨ (-4096 ≤ k ∧ 4096 < k) := by omega
    clear hn
    rcases hcase with hc | ⟨hc0, hc⟩
    all_goals
      go_enter Try.func16, Try.ntmps16
      go_wp2_with fail
      refine K1.out.mono ?_
      rintro e w1 ⟨rfl, rfl⟩
      go_wp2
      go_ret2
      exact ⟨⟨_, _, rfl, OI.none _ _⟩, Below.refl _ _⟩
  have e : shiftB xs k = fitsB (shV (val xs) k) := by unfold shiftB; rw [h1, decide_eq_true hn]; rfl
  rw [e]
  have q := natOk_in h1
  have hp := hR.1
  have S := hd (iShifted a len cap xs k w hR q.2.1 (by omega) (by omega))
  have T := hd (fun av cv w' h => iFits w.heap.size av cv (shV (val xs) k) w' h)
  clear e h1 q
  have hn1 := hn.1
  have hn2 := hn.2
  clear hn
  generalize resN (fitsB (shV (val xs) k)) (shV (val xs) k) = rl at *
  generalize fitsB (shV (val xs) k) = r at *
  generalize natL (shV (val xs) k) = ql at *
  go_enter Try.func16, Try.ntmps16
  go_wp2_with fail
  refine K1.out.mono ?_
  rintro e w1 ⟨rfl, rfl⟩
  go_wp2_with fail
  refine S.out.mono ?_
  rintro e w2 ⟨⟨av, cv, rfl, hO⟩, hb⟩
  go_wp2_with fail
  refine (T.out _ _ _ hO).mono ?_
  rintro e w3 ⟨⟨av2, cv2, rfl, hO2⟩, rfl⟩
  go_wp2
  go_ret2
  exact ⟨⟨_, _, rfl, hO2⟩, hb⟩
set_option maxHeartbeats 2000000 in
theorem sNatShift (a : Option Addr) (len cap : Nat) (xs : List Int) (k : Int) (hkk : -9223372036854775808 ≤ k ∧ k ≤ 9223372036854775807) (w : World) (hR : InI w a len cap xs) :
    Calls Try.prog 17 #[.slice a len cap, .int .i64 k] w fun e w' => (∃ av cv, e = .returned (.tuple #[.slice av (resN (shiftB xs k) (shV (val xs) k)).length cv, .bool (shiftB xs k)]) ∧ OI w' w.heap.size av cv (resN (shiftB xs k) (shV (val xs) k))) ∧ Below w.heap.size w w' := by
  have hlen := hR.len
  have K1 := hd (sNatOk a len cap xs w hR)
  cases h1 : natOk xs
  · have e : shiftB xs k = false := by unfold shiftB; rw [h1]; rfl
    rw [e]
    show Calls _ _ _ _ fun e w' => (∃ av cv, e = .returned (.tuple #[.slice av 0 cv, .bool false]) ∧ OI w' w.heap.size av cv []) ∧ Below w.heap.size w w'
    rw [h1] at K1
    clear e h1
    go_enter Try.func17, Try.ntmps17
    go_wp2_with fail
    refine K1.out.mono ?_
    rintro e w1 ⟨rfl, rfl⟩
    go_wp2
    go_ret2
    exact ⟨⟨_, _, rfl, OI.none _ _⟩, Below.refl _ _⟩
  rw [h1] at K1
  by_cases hn : -4096 ≤ k ∧ k ≤ 4096
  case neg =>
    have e : shiftB xs k = false := by unfold shiftB; rw [h1, decide_eq_false hn]; rfl
    rw [e]
    show Calls _ _ _ _ fun e w' => (∃ av cv, e = .returned (.tuple #[.slice av 0 cv, .bool false]) ∧ OI w' w.heap.size av cv []) ∧ Below w.heap.size w w'
    clear e h1
    have hcase : k < -4096 ∨ (-4096 ≤ k ∧ 4096 < k) := by omega
    clear hn
    rcases hcase with hc | ⟨hc0, hc⟩
    all_goals
      go_enter Try.func17, Try.ntmps17
      go_wp2_with fail
      refine K1.out.mono ?_
      rintro e w1 ⟨rfl, rfl⟩
      go_wp2
      go_ret2
      exact ⟨⟨_, _, rfl, OI.none _ _⟩, Below.refl _ _⟩
  have e : shiftB xs k = fitsB (shV (val xs) k) := by unfold shiftB; rw [h1, decide_eq_true hn]; rfl
  rw [e]
  have q := natOk_in h1
  have hp := hR.1
  have S := hd (sShift a len cap xs k w hR q.2.1 q.2.2 (by omega) (by omega))
  have T := hd (fun av cv w' h => sFits w.heap.size av cv (shV (val xs) k) w' h)
  clear e h1 q
  have hn1 := hn.1
  have hn2 := hn.2
  clear hn
  generalize resN (fitsB (shV (val xs) k)) (shV (val xs) k) = rl at *
  generalize fitsB (shV (val xs) k) = r at *
  generalize natL (shV (val xs) k) = ql at *
  go_enter Try.func17, Try.ntmps17
  go_wp2_with fail
  refine K1.out.mono ?_
  rintro e w1 ⟨rfl, rfl⟩
  go_wp2_with fail
  refine S.out.mono ?_
  rintro e w2 ⟨⟨av, cv, rfl, hO⟩, hb⟩
  go_wp2_with fail
  refine (T.out _ _ _ hO).mono ?_
  rintro e w3 ⟨⟨av2, cv2, rfl, hO2⟩, rfl⟩
  go_wp2
  go_ret2
  exact ⟨⟨_, _, rfl, hO2⟩, hb⟩
end Go.Proofs.Ytglbbhkfodkljaa
