/- Greatest common divisors of numbers: by the program and by the specification. Condition, of the program: the library's table holds what its text lays. -/
import Derived.Test.YtpamnpdigoikoaaDoorVP
import Derived.Test.YtpamnpdigoikoaaDoorVI
namespace Go.Proofs.YtpamnpdigoikoaaDoor
open Go.RowKit
set_option linter.unusedVariables false
set_option maxRecDepth 100000

def gcdB (xs ys : List Int) : Bool := natOk xs && natOk ys
theorem gcdB_len {xs ys : List Int} : (resN (gcdB xs ys) (Nat.gcd (val xs) (val ys))).length ≤ 1048576 := by
  cases h1 : natOk xs
  · have e : gcdB xs ys = false := by unfold gcdB; rw [h1]; rfl
    rw [e]
    show ([] : List Int).length ≤ 1048576
    simp
  cases h2 : natOk ys
  · have e : gcdB xs ys = false := by unfold gcdB; rw [h1, h2]; rfl
    rw [e]
    show ([] : List Int).length ≤ 1048576
    simp
  have e : gcdB xs ys = true := by unfold gcdB; rw [h1, h2]; rfl
  rw [e]
  show (natL (Nat.gcd (val xs) (val ys))).length ≤ 1048576
  have hx := natOk_lt h1
  have hy := natOk_lt h2
  have : Nat.gcd (val xs) (val ys) < 65536 ^ 256 := by
    by_cases h0 : val xs = 0
    · rw [h0, Nat.gcd_zero_left]; exact hy
    · exact Nat.lt_of_le_of_lt (Nat.le_of_dvd (Nat.pos_of_ne_zero h0) (Nat.gcd_dvd_left _ _)) hx
  have := natL_len.2 this
  omega
set_option maxHeartbeats 2000000 in
theorem iNatGcd (a b : Option Addr) (la lb ca cb : Nat) (xs ys : List Int) (w : World) (hA : InI w a la ca xs) (hB : InI w b lb cb ys) (hT : Tab w) :
    Calls Tryd.prog 13 #[.slice a la ca, .slice b lb cb] w fun e w' => (∃ av cv, e = .returned (.tuple #[.slice av (resN (gcdB xs ys) (Nat.gcd (val xs) (val ys))).length cv, .bool (gcdB xs ys)]) ∧ OI w' w.heap.size av cv (resN (gcdB xs ys) (Nat.gcd (val xs) (val ys)))) ∧ Below w.heap.size w w' := by
  have hla := hA.len
  have hlb := hB.len
  have K1 := hd (iNatOk a la ca xs w hA)
  have K2 := hd (iNatOk b lb cb ys w hB)
  cases h1 : natOk xs
  · have e : gcdB xs ys = false := by unfold gcdB; rw [h1]; rfl
    rw [e]
    rw [h1] at K1
    show Calls _ _ _ _ fun e w' => (∃ av cv, e = .returned (.tuple #[.slice av 0 cv, .bool false]) ∧ OI w' w.heap.size av cv []) ∧ Below w.heap.size w w'
    clear e h1
    go_enter Tryd.func13, Tryd.ntmps13
    go_wp2_with fail
    refine K1.out.mono ?_
    rintro e w1 ⟨rfl, rfl⟩
    go_wp2
    go_ret2
    exact ⟨⟨_, _, rfl, OI.none _ _⟩, Below.refl _ _⟩
  rw [h1] at K1
  cases h2 : natOk ys
  · have e : gcdB xs ys = false := by unfold gcdB; rw [h1, h2]; rfl
    rw [e]
    rw [h2] at K2
    show Calls _ _ _ _ fun e w' => (∃ av cv, e = .returned (.tuple #[.slice av 0 cv, .bool false]) ∧ OI w' w.heap.size av cv []) ∧ Below w.heap.size w w'
    clear e h1 h2
    go_enter Tryd.func13, Tryd.ntmps13
    go_wp2_with fail
    refine K1.out.mono ?_
    rintro e w1 ⟨rfl, rfl⟩
    go_wp2_with fail
    refine K2.out.mono ?_
    rintro e w1 ⟨rfl, rfl⟩
    go_wp2
    go_ret2
    exact ⟨⟨_, _, rfl, OI.none _ _⟩, Below.refl _ _⟩
  rw [h2] at K2
  have e : gcdB xs ys = true := by unfold gcdB; rw [h1, h2]; rfl
  rw [e]
  have q1 := natOk_in h1
  have q2 := natOk_in h2
  have p1 := hA.1
  have p2 := hB.1
  have P := hd (iCommon a b la lb ca cb xs ys w hA hB q1.2.1 q2.2.1 q1.2.2 q2.2.2 (by omega) (by omega) hT)
  show Calls _ _ _ _ fun e w' => (∃ av cv, e = .returned (.tuple #[.slice av (natL (Nat.gcd (val xs) (val ys))).length cv, .bool true]) ∧ OI w' w.heap.size av cv (natL (Nat.gcd (val xs) (val ys)))) ∧ Below w.heap.size w w'
  clear e h1 h2 q1 q2
  generalize natL (Nat.gcd (val xs) (val ys)) = ql at *
  go_enter Tryd.func13, Tryd.ntmps13
  go_wp2_with fail
  refine K1.out.mono ?_
  rintro e w1 ⟨rfl, rfl⟩
  go_wp2_with fail
  refine K2.out.mono ?_
  rintro e w1 ⟨rfl, rfl⟩
  go_wp2_with fail
  refine P.out.mono ?_
  rintro e w2 ⟨⟨av, cv, rfl, hO⟩, hb⟩
  go_wp2
  go_ret2
  exact ⟨⟨_, _, rfl, hO⟩, hb⟩
set_option maxHeartbeats 2000000 in
theorem sNatGcd (a b : Option Addr) (la lb ca cb : Nat) (xs ys : List Int) (w : World) (hA : InI w a la ca xs) (hB : InI w b lb cb ys) :
    Calls Tryd.prog 14 #[.slice a la ca, .slice b lb cb] w fun e w' => (∃ av cv, e = .returned (.tuple #[.slice av (resN (gcdB xs ys) (Nat.gcd (val xs) (val ys))).length cv, .bool (gcdB xs ys)]) ∧ OI w' w.heap.size av cv (resN (gcdB xs ys) (Nat.gcd (val xs) (val ys)))) ∧ Below w.heap.size w w' := by
  have hla := hA.len
  have hlb := hB.len
  have K1 := hd (sNatOk a la ca xs w hA)
  have K2 := hd (sNatOk b lb cb ys w hB)
  cases h1 : natOk xs
  · have e : gcdB xs ys = false := by unfold gcdB; rw [h1]; rfl
    rw [e]
    rw [h1] at K1
    show Calls _ _ _ _ fun e w' => (∃ av cv, e = .returned (.tuple #[.slice av 0 cv, .bool false]) ∧ OI w' w.heap.size av cv []) ∧ Below w.heap.size w w'
    clear e h1
    go_enter Tryd.func14, Tryd.ntmps14
    go_wp2_with fail
    refine K1.out.mono ?_
    rintro e w1 ⟨rfl, rfl⟩
    go_wp2
    go_ret2
    exact ⟨⟨_, _, rfl, OI.none _ _⟩, Below.refl _ _⟩
  rw [h1] at K1
  cases h2 : natOk ys
  · have e : gcdB xs ys = false := by unfold gcdB; rw [h1, h2]; rfl
    rw [e]
    rw [h2] at K2
    show Calls _ _ _ _ fun e w' => (∃ av cv, e = .returned (.tuple #[.slice av 0 cv, .bool false]) ∧ OI w' w.heap.size av cv []) ∧ Below w.heap.size w w'
    clear e h1 h2
    go_enter Tryd.func14, Tryd.ntmps14
    go_wp2_with fail
    refine K1.out.mono ?_
    rintro e w1 ⟨rfl, rfl⟩
    go_wp2_with fail
    refine K2.out.mono ?_
    rintro e w1 ⟨rfl, rfl⟩
    go_wp2
    go_ret2
    exact ⟨⟨_, _, rfl, OI.none _ _⟩, Below.refl _ _⟩
  rw [h2] at K2
  have e : gcdB xs ys = true := by unfold gcdB; rw [h1, h2]; rfl
  rw [e]
  have q1 := natOk_in h1
  have q2 := natOk_in h2
  have p1 := hA.1
  have p2 := hB.1
  have P := hd (sGcd a b la lb ca cb xs ys w hA hB q1.2.1 q2.2.1 (by omega) (by omega))
  show Calls _ _ _ _ fun e w' => (∃ av cv, e = .returned (.tuple #[.slice av (natL (Nat.gcd (val xs) (val ys))).length cv, .bool true]) ∧ OI w' w.heap.size av cv (natL (Nat.gcd (val xs) (val ys)))) ∧ Below w.heap.size w w'
  clear e h1 h2 q1 q2
  generalize natL (Nat.gcd (val xs) (val ys)) = ql at *
  go_enter Tryd.func14, Tryd.ntmps14
  go_wp2_with fail
  refine K1.out.mono ?_
  rintro e w1 ⟨rfl, rfl⟩
  go_wp2_with fail
  refine K2.out.mono ?_
  rintro e w1 ⟨rfl, rfl⟩
  go_wp2_with fail
  refine P.out.mono ?_
  rintro e w2 ⟨⟨av, cv, rfl, hO⟩, hb⟩
  go_wp2
  go_ret2
  exact ⟨⟨_, _, rfl, hO⟩, hb⟩
end Go.Proofs.YtpamnpdigoikoaaDoor
