/- Sums of numbers, where they have no more digits than may be. No condition. -/
import Derived.Test.YtcelbmnflcjfoaaN8
namespace Go.Proofs.Ytcelbmnflcjfoaa
open Go.RowKit
set_option linter.unusedVariables false

def resN (r : Bool) (v : Nat) : List Int := if r then natL v else []
def fitsB (v : Nat) : Bool := decide ((natL v).length ≤ 256)
theorem resN_len {r : Bool} {v : Nat} (h : r = true → fitsB v = true) : (resN r v).length ≤ 1048576 := by
  unfold resN
  split
  · rename_i g
    have := of_decide_eq_true (h g)
    omega
  · simp
set_option maxHeartbeats 1000000 in
theorem sFits (base : Nat) (av : Option Addr) (cv : Nat) (v : Nat) (w : World) (h : OI w base av cv (natL v)) :
    Calls Try.prog 27 #[.slice av (natL v).length cv] w fun e w' => (∃ av cv, e = .returned (.tuple #[.slice av (resN (fitsB v) v).length cv, .bool (fitsB v)]) ∧ OI w' base av cv (resN (fitsB v) v)) ∧ w' = w := by
  have hlen := h.inI.len
  by_cases hl : (natL v).length ≤ 256
  · have e : fitsB v = true := decide_eq_true hl
    rw [e]
    show Calls _ _ _ _ fun e w' => (∃ av cv, e = .returned (.tuple #[.slice av (natL v).length cv, .bool true]) ∧ OI w' base av cv (natL v)) ∧ w' = w
    generalize natL v = ql at *
    go_enter Try.func27, Try.ntmps27
    go_wp2
    go_ret2
    exact ⟨⟨_, _, rfl, h⟩, rfl⟩
  · have e : fitsB v = false := decide_eq_false hl
    rw [e]
    show Calls _ _ _ _ fun e w' => (∃ av cv, e = .returned (.tuple #[.slice av 0 cv, .bool false]) ∧ OI w' base av cv []) ∧ w' = w
    generalize natL v = ql at *
    go_enter Try.func27, Try.ntmps27
    go_wp2
    go_ret2
    exact ⟨⟨_, _, rfl, OI.none _ _⟩, rfl⟩
set_option maxHeartbeats 1000000 in
theorem iFits (base : Nat) (av : Option Addr) (cv : Nat) (v : Nat) (w : World) (h : OI w base av cv (natL v)) :
    Calls Try.prog 24 #[.slice av (natL v).length cv] w fun e w' => (∃ av cv, e = .returned (.tuple #[.slice av (resN (fitsB v) v).length cv, .bool (fitsB v)]) ∧ OI w' base av cv (resN (fitsB v) v)) ∧ w' = w := by
  have hlen := h.inI.len
  by_cases hl : (natL v).length ≤ 256
  · have e : fitsB v = true := decide_eq_true hl
    rw [e]
    show Calls _ _ _ _ fun e w' => (∃ av cv, e = .returned (.tuple #[.slice av (natL v).length cv, .bool true]) ∧ OI w' base av cv (natL v)) ∧ w' = w
    generalize natL v = ql at *
    go_enter Try.func24, Try.ntmps24
    go_wp2
    go_ret2
    exact ⟨⟨_, _, rfl, h⟩, rfl⟩
  · have e : fitsB v = false := decide_eq_false hl
    rw [e]
    show Calls _ _ _ _ fun e w' => (∃ av cv, e = .returned (.tuple #[.slice av 0 cv, .bool false]) ∧ OI w' base av cv []) ∧ w' = w
    generalize natL v = ql at *
    go_enter Try.func24, Try.ntmps24
    go_wp2
    go_ret2
    exact ⟨⟨_, _, rfl, OI.none _ _⟩, rfl⟩
theorem pow_split (m n : Nat) : (65536 : Int) ^ (m + n) = (65536 : Int) ^ m * (65536 : Int) ^ n := Int.pow_add _ _ _
theorem sum_lt {xs ys : List Int} {la lb : Nat} (hx : digs xs) (hy : digs ys) (pa : xs.length = la) (pb : ys.length = lb) : ((val xs + val ys : Nat) : Int) < (65536 : Int) ^ (max la lb + 1) := by
  have h1 := val_lt hx
  have h2 := val_lt hy
  have g1 : 65536 ^ xs.length ≤ 65536 ^ (max la lb) := Nat.pow_le_pow_right (by omega) (by omega)
  have g2 : 65536 ^ ys.length ≤ 65536 ^ (max la lb) := Nat.pow_le_pow_right (by omega) (by omega)
  have e := pow_cast (max la lb + 1)
  rw [← e, Nat.pow_succ]
  omega
def addB (xs ys : List Int) : Bool := natOk xs && (natOk ys && fitsB (val xs + val ys))
theorem addB_fits {xs ys : List Int} (h : addB xs ys = true) : fitsB (val xs + val ys) = true := by
  unfold addB at h
  simp only [Bool.and_eq_true] at h
  exact h.2.2
end Go.Proofs.Ytcelbmnflcjfoaa
