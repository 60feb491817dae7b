/- Sums of numbers, where they have no more digits than may be. No condition. -/
import Derived.Test.YtpamnpdigoikoaaDoorN8
namespace Go.Proofs.YtpamnpdigoikoaaDoor
open Go.RowKit
set_option linter.unusedVariables false
set_option maxRecDepth 100000

def resN (r : Bool) (v : Nat) : List Int := if r then natL v else []
def fitsB (v : Nat) : Bool := decide ((natL v).length ≤ 256)
theorem resN_len {r : Bool} {v : Nat} (h : r = true → fitsB v = true) : (resN r v).length ≤ 1048576 := by
  unfold resN
  split
  · rename_i g
    have := of_decide_eq_true (h g)
    omega
  · simp
theorem pow_split (m n : Nat) : (65536 : Int) ^ (m + n) = (65536 : Int) ^ m * (65536 : Int) ^ n := Int.pow_add _ _ _
theorem sum_lt {xs ys : List Int} {la lb : Nat} (hx : digs xs) (hy : digs ys) (pa : xs.length = la) (pb : ys.length = lb) : ((val xs + val ys : Nat) : Int) < (65536 : Int) ^ (max la lb + 1) := by
  have h1 := val_lt hx
  have h2 := val_lt hy
  have g1 : 65536 ^ xs.length ≤ 65536 ^ (max la lb) := Nat.pow_le_pow_right (by omega) (by omega)
  have g2 : 65536 ^ ys.length ≤ 65536 ^ (max la lb) := Nat.pow_le_pow_right (by omega) (by omega)
  have e := pow_cast (max la lb + 1)
  rw [← e, Nat.pow_succ]
  omega
set_option maxHeartbeats 1000000 in
theorem iPlus (a b : Option Addr) (la lb ca cb : Nat) (xs ys : List Int) (w : World) (hA : InI w a la ca xs) (hB : InI w b lb cb ys) (hx : digs xs) (hy : digs ys) (hla : la ≤ 1048576) (hlb : lb ≤ 1048576) :
    Calls Tryd.prog 70 #[.slice a la ca, .slice b lb cb] w fun e w' => (∃ av cv, e = .returned (.slice av (natL (val xs + val ys)).length cv) ∧ OI w' w.heap.size av cv (natL (val xs + val ys))) ∧ Below w.heap.size w w' := by
  have M := hd (iMixed a b la lb ca cb xs ys 1 1 1 w hA hB hx hy hla hlb (by omega) (by omega) (by omega) (by omega) ((val xs + val ys : Nat) : Int) (by omega) (by omega) (sum_lt hx hy hA.1 hB.1))
  rw [Int.toNat_natCast] at M
  generalize natL (val xs + val ys) = ql at *
  go_enter Tryd.func70, Tryd.ntmps70
  go_wp2_with fail
  refine M.out.mono ?_
  rintro e w1 ⟨⟨av, cv, rfl, hO⟩, hb1⟩
  go_wp2
  go_ret
  exact ⟨⟨_, _, rfl, hO⟩, hb1⟩
def addB (xs ys : List Int) : Bool := natOk xs && (natOk ys && fitsB (val xs + val ys))
theorem addB_fits {xs ys : List Int} (h : addB xs ys = true) : fitsB (val xs + val ys) = true := by
  unfold addB at h
  simp only [Bool.and_eq_true] at h
  exact h.2.2
end Go.Proofs.YtpamnpdigoikoaaDoor
