/- A number below 2^64 as one word: the specification; mathematics for the program. Conditions: numbers. -/
import Derived.Test.YtpamnpdigoikoaaDoorNK
import Derived.Test.YtpamnpdigoikoaaDoorNT
import Derived.Test.YtpamnpdigoikoaaDoorN5
namespace Go.Proofs.YtpamnpdigoikoaaDoor
open Go.RowKit
set_option linter.unusedVariables false
set_option maxRecDepth 100000

def smallB (xs : List Int) : Bool := natOk xs && decide (xs.length ≤ 4)
def smallV (xs : List Int) : Nat := if smallB xs then val xs else 0
theorem val_drop {xs : List Int} {j : Nat} (h : j < xs.length) : val (xs.drop j) = (xs.getD j 0).toNat + 65536 * val (xs.drop (j + 1)) := by
  rw [List.drop_eq_getElem_cons h, val_cons, List.getD_eq_getElem?_getD, List.getElem?_eq_getElem h]; rfl
theorem digs_drop {xs : List Int} (h : digs xs) (j : Nat) : digs (xs.drop j) := (digs_append.1 (by rw [List.take_append_drop]; exact h)).2
theorem val_drop_lt {xs : List Int} (h : digs xs) (hl : xs.length ≤ 4) (j : Nat) (hj : 0 < j) : val (xs.drop j) < 281474976710656 := by
  have := val_lt (digs_drop h j)
  rw [List.length_drop] at this
  have h2 : 65536 ^ (xs.length - j) ≤ 65536 ^ 3 := Nat.pow_le_pow_right (by omega) (by omega)
  omega
theorem hlvI_16 {x : Int} (h : dig x) : 0 ≤ hlvI x ∧ hlvI x ≤ 16 := by
  unfold dig at h
  have := Lib.bitLen_le x.toNat 16 (by omega) (by omega)
  unfold hlvI
  omega
theorem hlvI_pos {x : Int} (h : dig x) (h0 : x ≠ 0) : 1 ≤ hlvI x := by
  unfold dig at h
  have := hlvI_half (d := x) (by omega) h.2
  have := hlvI_16 (x := x / 2) (by unfold dig; omega)
  omega
theorem bitsN_64 {xs : List Int} (h : natOk xs = true) : bitsN xs ≤ 64 ↔ xs.length ≤ 4 := by
  obtain ⟨h1, h2, h3⟩ := natOk_in h
  unfold bitsN
  split
  · omega
  · have d := h2 (xs.length - 1) (by omega)
    have a := hlvI_16 d
    have b := hlvI_pos d (h3.resolve_left (by omega))
    omega
end Go.Proofs.YtpamnpdigoikoaaDoor
