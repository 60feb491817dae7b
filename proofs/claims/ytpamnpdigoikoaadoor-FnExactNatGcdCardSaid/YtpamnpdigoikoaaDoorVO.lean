/- How often a number can be halved, and what is left: by the program. Conditions: digits, not 0, 2^16 at most; the library's table holds what its text lays. -/
import Derived.Test.YtpamnpdigoikoaaDoorTZ
import Derived.Test.YtpamnpdigoikoaaDoorVN
namespace Go.Proofs.YtpamnpdigoikoaaDoor
open Go.RowKit
set_option linter.unusedVariables false
set_option maxRecDepth 100000

theorem val_zero_take {xs : List Int} {k : Nat} (hx : digs xs) (hz : ∀ i, i < k → xs.getD i 0 = 0) (hk : k ≤ xs.length) : val xs = 65536 ^ k * val (xs.drop k) := by
  induction k with
  | zero => simp
  | succ k ih =>
    have h1 := ih (fun i hi => hz i (by omega)) (by omega)
    rw [h1, val_drop (by omega), hz k (by omega)]
    simp only [Int.toNat_zero, Nat.zero_add]
    rw [Nat.pow_succ, Nat.mul_assoc]
set_option maxHeartbeats 2000000 in
theorem iTwos (a : Option Addr) (len cap : Nat) (xs : List Int) (w : World) (hR : InI w a len cap xs) (hx : digs xs) (h0 : val xs ≠ 0) (hl : len ≤ 65536) (hT : Tab w) :
    Calls Tryd.prog 71 #[.slice a len cap] w fun e w' => e = .returned (.int .i64 (twosOf (val xs) : Int)) ∧ w' = w := by
  have hp := hR.1
  have hfin : Hid (∀ k d, k < len → (∀ i, i < k → xs.getD i 0 = 0) → xs.getD k 0 = ((d : Nat) : Int) → d ≠ 0 → d < 65536 → twosOf (val xs) = 16 * k + twosOf d) := by
    intro k d hk hz hd h1 h2
    rw [val_zero_take hx hz (by omega), val_drop (by omega), hd, Int.toNat_natCast, twosOf_shift (by omega), twosOf_digit h1 h2]
  have hnone : Hid (¬ ∀ i, i < len → xs.getD i 0 = 0) := by
    intro hz
    have := val_zero_take hx (k := len) hz (by omega)
    rw [List.drop_of_length_le (by omega)] at this
    exact h0 (by rw [this]; simp [val])
  have TZc := hd (fun n h1 h2 => tz_any n w h1 h2 hT)
  generalize twosOf (val xs) = tw at *
  clear h0 hT
  go_enter Tryd.func71, Tryd.ntmps71
  go_wp2
  go_loopw [3, 8] (fun c i wr => ∃ (k : Nat), k ≤ len ∧ c = .int .i64 (16 * (k : Int)) ∧ i = .int .i64 (k : Int) ∧ (∀ j, j < k → xs.getD j 0 = 0) ∧ wr = w) (fun _ i _ => len - (intOf i).toNat)
  case atStart => exact ⟨0, by omega, rfl, rfl, fun j h => by omega, rfl⟩
  case round =>
    obtain ⟨k, hk, rfl, rfl, hz, hw⟩ := hrel
    obtain rfl : w = wr := hw.symm
    clear hw
    by_cases hlt : k < len
    · obtain ⟨b, off, x, rfl, hbl, hx2, -, c0⟩ := hR.at (k := k) hlt
      have dx := digs_getD hx k
      rw [hx2] at dx
      unfold dig at dx
      obtain ⟨d, rfl⟩ : ∃ d : Nat, x = (d : Int) := ⟨x.toNat, by omega⟩
      have hK : (k : Int) < (len : Int) := by omega
      have hK1 : (k : Int) ≤ 65536 := by omega
      have hK0 : (0 : Int) ≤ (k : Int) := by omega
      by_cases hd0 : d = 0
      · subst hd0
        have hz' : Hid (∀ j, j < k + 1 → xs.getD j 0 = 0) := fun j hj => by
          by_cases e : j = k
          · subst e; exact hx2
          · exact hz j (by omega)
        clear hz hx2 hfin hnone
        go_wp2
        go_roundw
        case rel => exact ⟨k + 1, by omega, by go_num, by go_num, hz'.out, trivial⟩
        case measure => (simp [intOf] <;> omega)
      · have h9 := hfin.out k d hlt hz hx2 hd0 (by omega)
        have hT2 := hd (TZc.out d hd0 (by omega))
        have hlz := twosOf_lt (k := 16) hd0 (by omega)
        have hdb : (d : Int) < 65536 := by omega
        have hd0' : ¬ (d : Int) = 0 := by omega
        have hdn : (0 : Int) ≤ (d : Int) := by omega
        generalize twosOf d = z at *
        generalize hdI : (d : Int) = dI at *
        have hz1 : (z : Int) < 16 := by omega
        have hz0 : (0 : Int) ≤ (z : Int) := by omega
        have h9' : Hid ((tw : Int) = 16 * (k : Int) + (z : Int)) := by show _ = _; omega
        clear h9 hz hx2 hfin hnone TZc hlz
        go_wp2_with (go_at_call 95; refine hT2.out.mono ?_; rintro e w1 ⟨rfl, rfl⟩)
        go_ret
        exact ⟨retI h9'.out, rfl⟩
    · obtain rfl : k = len := by omega
      exact absurd hz hnone.out
theorem two16 (P p : Nat) : 65536 ^ P * 2 ^ p = 2 ^ (16 * P + p) := by rw [Nat.pow_add, show (65536 : Nat) = 2 ^ 16 from rfl, ← Nat.pow_mul]
theorem split16 (k : Nat) : (k : Int) = 16 * ((k / 16 : Nat) : Int) + ((k % 16 : Nat) : Int) := by omega
theorem iDownK (a : Option Addr) (len cap : Nat) (xs : List Int) (k : Nat) (w : World) (hR : InI w a len cap xs) (hx : digs xs) (hk : k ≤ 1048576) (hl : len ≤ 1048576) :
    Calls Tryd.prog 82 #[.slice a len cap, .int .i64 (k : Int)] w fun e w' => (∃ av cv, e = .returned (.slice av (natL (val xs / 2 ^ k)).length cv) ∧ OI w' w.heap.size av cv (natL (val xs / 2 ^ k))) ∧ Below w.heap.size w w' := by
  have h := iDown a len cap xs (k / 16) (k % 16) w hR hx (Nat.mod_lt _ (by omega)) (by omega) hl
  rw [two16, ← split16, show 16 * (k / 16) + k % 16 = k by omega] at h
  exact h
theorem iUpK (a : Option Addr) (len cap : Nat) (xs : List Int) (k : Nat) (w : World) (hR : InI w a len cap xs) (hx : digs xs) (hk : k ≤ 16384) (hl : len ≤ 1048576) :
    Calls Tryd.prog 75 #[.slice a len cap, .int .i64 (k : Int)] w fun e w' => (∃ av cv, e = .returned (.slice av (natL (2 ^ k * val xs)).length cv) ∧ OI w' w.heap.size av cv (natL (2 ^ k * val xs))) ∧ Below w.heap.size w w' := by
  have h := iUp a len cap xs (k / 16) (k % 16) w hR hx (Nat.mod_lt _ (by omega)) (by omega) hl
  rw [two16, ← split16, show 16 * (k / 16) + k % 16 = k by omega] at h
  exact h
theorem twos_bd {xs : List Int} {len : Nat} (hx : digs xs) (hp : xs.length = len) (h0 : val xs ≠ 0) : twosOf (val xs) < 16 * len := by
  refine twosOf_lt h0 ?_
  have := val_lt hx
  rw [hp, show (65536 : Nat) = 2 ^ 16 from rfl, ← Nat.pow_mul] at this
  exact this
set_option maxHeartbeats 1000000 in
theorem iOdd (a : Option Addr) (len cap : Nat) (xs : List Int) (w : World) (hR : InI w a len cap xs) (hx : digs xs) (h0 : val xs ≠ 0) (hl : len ≤ 65536) (hT : Tab w) :
    Calls Tryd.prog 72 #[.slice a len cap] w fun e w' => (∃ av cv, e = .returned (.slice av (natL (oddOf (val xs))).length cv) ∧ OI w' w.heap.size av cv (natL (oddOf (val xs)))) ∧ Below w.heap.size w w' := by
  have T := hd (iTwos a len cap xs w hR hx h0 hl hT)
  have hb := twos_bd hx hR.1 h0
  have D := hd (iDownK a len cap xs (twosOf (val xs)) w hR hx (by omega) (by omega))
  unfold oddOf
  generalize natL (val xs / 2 ^ twosOf (val xs)) = ql at *
  generalize twosOf (val xs) = tw at *
  clear hb
  go_enter Tryd.func72, Tryd.ntmps72
  go_wp2_with fail
  refine T.out.mono ?_
  rintro e w1 ⟨rfl, hw⟩
  obtain rfl : w = w1 := hw.symm
  clear hw
  go_wp2_with fail
  refine D.out.mono ?_
  rintro e w1 ⟨⟨av, cv, rfl, hO⟩, hb1⟩
  go_wp2
  go_ret
  exact ⟨⟨_, _, rfl, hO⟩, hb1⟩
end Go.Proofs.YtpamnpdigoikoaaDoor
