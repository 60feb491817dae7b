/- Sums of numbers, where they have no more digits than may be. No condition. -/
import Derived.Test.YtfjoilkgpdepaaaN8
namespace Go.Proofs.Ytfjoilkgpdepaaa
open Go.RowKit
set_option linter.unusedVariables false

def resN (r : Bool) (v : Nat) : List Int := if r then natL v else []
def fitsB (v : Nat) : Bool := decide ((natL v).length ≤ 256)
theorem resN_len {r : Bool} {v : Nat} (h : r = true → fitsB v = true) : (resN r v).length ≤ 1048576 := by
  unfold resN
  split
  · rename_i g
    have := of_decide_eq_true (h g)
    omega
  · simp
set_option maxHeartbeats 1000000 in
theorem sFits (base : Nat) (av : Option Addr) (cv : Nat) (v : Nat) (w : World) (h : OI w base av cv (natL v)) :
    Calls Try.prog 46 #[.slice av (natL v).length cv] w fun e w' => (∃ av cv, e = .returned (.tuple #[.slice av (resN (fitsB v) v).length cv, .bool (fitsB v)]) ∧ OI w' base av cv (resN (fitsB v) v)) ∧ w' = w := by
  have hlen := h.inI.len
  by_cases hl : (natL v).length ≤ 256
  · have e : fitsB v = true := decide_eq_true hl
    rw [e]
    show Calls _ _ _ _ fun e w' => (∃ av cv, e = .returned (.tuple #[.slice av (natL v).length cv, .bool true]) ∧ OI w' base av cv (natL v)) ∧ w' = w
    generalize natL v = ql at *
    go_enter Try.func46, Try.ntmps46
    go_wp2
    go_ret2
    exact ⟨⟨_, _, rfl, h⟩, rfl⟩
  · have e : fitsB v = false := decide_eq_false hl
    rw [e]
    show Calls _ _ _ _ fun e w' => (∃ av cv, e = .returned (.tuple #[.slice av 0 cv, .bool false]) ∧ OI w' base av cv []) ∧ w' = w
    generalize natL v = ql at *
    go_enter Try.func46, Try.ntmps46
    go_wp2
    go_ret2
    exact ⟨⟨_, _, rfl, OI.none _ _⟩, rfl⟩
set_option maxHeartbeats 1000000 in
theorem iFits (base : Nat) (av : Option Addr) (cv : Nat) (v : Nat) (w : World) (h : OI w base av cv (natL v)) :
    Calls Try.prog 42 #[.slice av (natL v).length cv] w fun e w' => (∃ av cv, e = .returned (.tuple #[.slice av (resN (fitsB v) v).length cv, .bool (fitsB v)]) ∧ OI w' base av cv (resN (fitsB v) v)) ∧ w' = w := by
  have hlen := h.inI.len
  by_cases hl : (natL v).length ≤ 256
  · have e : fitsB v = true := decide_eq_true hl
    rw [e]
    show Calls _ _ _ _ fun e w' => (∃ av cv, e = .returned (.tuple #[.slice av (natL v).length cv, .bool true]) ∧ OI w' base av cv (natL v)) ∧ w' = w
    generalize natL v = ql at *
    go_enter Try.func42, Try.ntmps42
    go_wp2
    go_ret2
    exact ⟨⟨_, _, rfl, h⟩, rfl⟩
  · have e : fitsB v = false := decide_eq_false hl
    rw [e]
    show Calls _ _ _ _ fun e w' => (∃ av cv, e = .returned (.tuple #[.slice av 0 cv, .bool false]) ∧ OI w' base av cv []) ∧ w' = w
    generalize natL v = ql at *
    go_enter Try.func42, Try.ntmps42
    go_wp2
    go_ret2
    exact ⟨⟨_, _, rfl, OI.none _ _⟩, rfl⟩
theorem pow_split (m n : Nat) : (65536 : Int) ^ (m + n) = (65536 : Int) ^ m * (65536 : Int) ^ n := Int.pow_add _ _ _
theorem sum_lt {xs ys : List Int} {la lb : Nat} (hx : digs xs) (hy : digs ys) (pa : xs.length = la) (pb : ys.length = lb) : ((val xs + val ys : Nat) : Int) < (65536 : Int) ^ (max la lb + 1) := by
  have h1 := val_lt hx
  have h2 := val_lt hy
  have g1 : 65536 ^ xs.length ≤ 65536 ^ (max la lb) := Nat.pow_le_pow_right (by omega) (by omega)
  have g2 : 65536 ^ ys.length ≤ 65536 ^ (max la lb) := Nat.pow_le_pow_right (by omega) (by omega)
  have e := pow_cast (max la lb + 1)
  rw [← e, Nat.pow_succ]
  omega
set_option maxHeartbeats 1000000 in
theorem iPlus (a b : Option Addr) (la lb ca cb : Nat) (xs ys : List Int) (w : World) (hA : InI w a la ca xs) (hB : InI w b lb cb ys) (hx : digs xs) (hy : digs ys) (hla : la ≤ 1048576) (hlb : lb ≤ 1048576) :
    Calls Try.prog 43 #[.slice a la ca, .slice b lb cb] w fun e w' => (∃ av cv, e = .returned (.slice av (natL (val xs + val ys)).length cv) ∧ OI w' w.heap.size av cv (natL (val xs + val ys))) ∧ Below w.heap.size w w' := by
  have M := hd (iMixed a b la lb ca cb xs ys 1 1 1 w hA hB hx hy hla hlb (by omega) (by omega) (by omega) (by omega) ((val xs + val ys : Nat) : Int) (by omega) (by omega) (sum_lt hx hy hA.1 hB.1))
  rw [Int.toNat_natCast] at M
  generalize natL (val xs + val ys) = ql at *
  go_enter Try.func43, Try.ntmps43
  go_wp2_with fail
  refine M.out.mono ?_
  rintro e w1 ⟨⟨av, cv, rfl, hO⟩, hb1⟩
  go_wp2
  go_ret
  exact ⟨⟨_, _, rfl, hO⟩, hb1⟩
def addB (xs ys : List Int) : Bool := natOk xs && (natOk ys && fitsB (val xs + val ys))
set_option maxHeartbeats 2000000 in
theorem iNatAdd (a b : Option Addr) (la lb ca cb : Nat) (xs ys : List Int) (w : World) (hA : InI w a la ca xs) (hB : InI w b lb cb ys) :
    Calls Try.prog 19 #[.slice a la ca, .slice b lb cb] w fun e w' => (∃ av cv, e = .returned (.tuple #[.slice av (resN (addB xs ys) (val xs + val ys)).length cv, .bool (addB xs ys)]) ∧ OI w' w.heap.size av cv (resN (addB xs ys) (val xs + val ys))) ∧ Below w.heap.size w w' := by
  have hla := hA.len
  have hlb := hB.len
  have K1 := hd (iNatOk a la ca xs w hA)
  have K2 := hd (iNatOk b lb cb ys w hB)
  cases h1 : natOk xs
  · have e : addB xs ys = false := by unfold addB; rw [h1]; rfl
    rw [e]
    rw [h1] at K1
    show Calls _ _ _ _ fun e w' => (∃ av cv, e = .returned (.tuple #[.slice av 0 cv, .bool false]) ∧ OI w' w.heap.size av cv []) ∧ Below w.heap.size w w'
    clear e h1
    go_enter Try.func19, Try.ntmps19
    go_wp2_with fail
    refine K1.out.mono ?_
    rintro e w1 ⟨rfl, rfl⟩
    go_wp2
    go_ret2
    exact ⟨⟨_, _, rfl, OI.none _ _⟩, Below.refl _ _⟩
  rw [h1] at K1
  cases h2 : natOk ys
  · have e : addB xs ys = false := by unfold addB; rw [h1, h2]; rfl
    rw [e]
    rw [h2] at K2
    show Calls _ _ _ _ fun e w' => (∃ av cv, e = .returned (.tuple #[.slice av 0 cv, .bool false]) ∧ OI w' w.heap.size av cv []) ∧ Below w.heap.size w w'
    clear e h1 h2
    go_enter Try.func19, Try.ntmps19
    go_wp2_with fail
    refine K1.out.mono ?_
    rintro e w1 ⟨rfl, rfl⟩
    go_wp2_with fail
    refine K2.out.mono ?_
    rintro e w1 ⟨rfl, rfl⟩
    go_wp2
    go_ret2
    exact ⟨⟨_, _, rfl, OI.none _ _⟩, Below.refl _ _⟩
  rw [h2] at K2
  have e : addB xs ys = fitsB (val xs + val ys) := by unfold addB; rw [h1, h2]; rfl
  rw [e]
  have q1 := natOk_in h1
  have q2 := natOk_in h2
  have p1 := hA.1
  have p2 := hB.1
  have P := hd (iPlus a b la lb ca cb xs ys w hA hB q1.2.1 q2.2.1 (by omega) (by omega))
  have T := hd (fun av cv w' h => iFits w.heap.size av cv (val xs + val ys) w' h)
  clear e h1 h2 q1 q2
  generalize resN (fitsB (val xs + val ys)) (val xs + val ys) = rl at *
  generalize fitsB (val xs + val ys) = r at *
  generalize natL (val xs + val ys) = ql at *
  go_enter Try.func19, Try.ntmps19
  go_wp2_with fail
  refine K1.out.mono ?_
  rintro e w1 ⟨rfl, rfl⟩
  go_wp2_with fail
  refine K2.out.mono ?_
  rintro e w1 ⟨rfl, rfl⟩
  go_wp2_with fail
  refine P.out.mono ?_
  rintro e w2 ⟨⟨av, cv, rfl, hO⟩, hb⟩
  go_wp2_with fail
  refine (T.out _ _ _ hO).mono ?_
  rintro e w3 ⟨⟨av2, cv2, rfl, hO2⟩, rfl⟩
  go_wp2
  go_ret2
  exact ⟨⟨_, _, rfl, hO2⟩, hb⟩
set_option maxHeartbeats 2000000 in
theorem sNatAdd (a b : Option Addr) (la lb ca cb : Nat) (xs ys : List Int) (w : World) (hA : InI w a la ca xs) (hB : InI w b lb cb ys) :
    Calls Try.prog 30 #[.slice a la ca, .slice b lb cb] w fun e w' => (∃ av cv, e = .returned (.tuple #[.slice av (resN (addB xs ys) (val xs + val ys)).length cv, .bool (addB xs ys)]) ∧ OI w' w.heap.size av cv (resN (addB xs ys) (val xs + val ys))) ∧ Below w.heap.size w w' := by
  have hla := hA.len
  have hlb := hB.len
  have K1 := hd (sNatOk a la ca xs w hA)
  have K2 := hd (sNatOk b lb cb ys w hB)
  cases h1 : natOk xs
  · have e : addB xs ys = false := by unfold addB; rw [h1]; rfl
    rw [e]
    rw [h1] at K1
    show Calls _ _ _ _ fun e w' => (∃ av cv, e = .returned (.tuple #[.slice av 0 cv, .bool false]) ∧ OI w' w.heap.size av cv []) ∧ Below w.heap.size w w'
    clear e h1
    go_enter Try.func30, Try.ntmps30
    go_wp2_with fail
    refine K1.out.mono ?_
    rintro e w1 ⟨rfl, rfl⟩
    go_wp2
    go_ret2
    exact ⟨⟨_, _, rfl, OI.none _ _⟩, Below.refl _ _⟩
  rw [h1] at K1
  cases h2 : natOk ys
  · have e : addB xs ys = false := by unfold addB; rw [h1, h2]; rfl
    rw [e]
    rw [h2] at K2
    show Calls _ _ _ _ fun e w' => (∃ av cv, e = .returned (.tuple #[.slice av 0 cv, .bool false]) ∧ OI w' w.heap.size av cv []) ∧ Below w.heap.size w w'
    clear e h1 h2
    go_enter Try.func30, Try.ntmps30
    go_wp2_with fail
    refine K1.out.mono ?_
    rintro e w1 ⟨rfl, rfl⟩
    go_wp2_with fail
    refine K2.out.mono ?_
    rintro e w1 ⟨rfl, rfl⟩
    go_wp2
    go_ret2
    exact ⟨⟨_, _, rfl, OI.none _ _⟩, Below.refl _ _⟩
  rw [h2] at K2
  have e : addB xs ys = fitsB (val xs + val ys) := by unfold addB; rw [h1, h2]; rfl
  rw [e]
  have q1 := natOk_in h1
  have q2 := natOk_in h2
  have p1 := hA.1
  have p2 := hB.1
  have P := hd (sAdd a b la lb ca cb xs ys w hA hB q1.2.1 q2.2.1 q1.2.2 q2.2.2 (by omega) (by omega))
  have T := hd (fun av cv w' h => sFits w.heap.size av cv (val xs + val ys) w' h)
  clear e h1 h2 q1 q2
  generalize resN (fitsB (val xs + val ys)) (val xs + val ys) = rl at *
  generalize fitsB (val xs + val ys) = r at *
  generalize natL (val xs + val ys) = ql at *
  go_enter Try.func30, Try.ntmps30
  go_wp2_with fail
  refine K1.out.mono ?_
  rintro e w1 ⟨rfl, rfl⟩
  go_wp2_with fail
  refine K2.out.mono ?_
  rintro e w1 ⟨rfl, rfl⟩
  go_wp2_with fail
  refine P.out.mono ?_
  rintro e w2 ⟨⟨av, cv, rfl, hO⟩, hb⟩
  go_wp2_with fail
  refine (T.out _ _ _ hO).mono ?_
  rintro e w3 ⟨⟨av2, cv2, rfl, hO2⟩, rfl⟩
  go_wp2
  go_ret2
  exact ⟨⟨_, _, rfl, hO2⟩, hb⟩
theorem addB_fits {xs ys : List Int} (h : addB xs ys = true) : fitsB (val xs + val ys) = true := by
  unfold addB at h
  simp only [Bool.and_eq_true] at h
  exact h.2.2
end Go.Proofs.Ytfjoilkgpdepaaa
