/- Powers of two and shifts, by the specification. Conditions: numbers. -/
import Derived.Test.YtbcdeddbkckaeaaGreatDoorBD
import Derived.Test.YtbcdeddbkckaeaaGreatDoorBC
namespace Go.Proofs.YtbcdeddbkckaeaaGreatDoor
open Go.RowKit
set_option linter.unusedVariables false
set_option maxRecDepth 100000

theorem pow2_split (P p : Nat) : 2 ^ (16 * P + p) = 65536 ^ P * 2 ^ p := by rw [Nat.pow_add, Nat.pow_mul]
set_option maxRecDepth 100000 in
set_option maxHeartbeats 2000000 in
theorem sPow2 (P p : Nat) (w : World) (hp : p < 16) (hP : P ≤ 1024) :
    Calls Tryz.prog 72 #[.int .i64 (16 * (P : Int) + p)] w fun e w' => (∃ av cv, e = .returned (.slice av (natL (65536 ^ P * 2 ^ p)).length cv) ∧ OI w' w.heap.size av cv (natL (65536 ^ P * 2 ^ p))) ∧ Below w.heap.size w w' := by
  have hq : (16 * (P : Int) + p) / 16 = P := by omega
  have hr : (16 * (P : Int) + p) % 16 = p := by omega
  have hT : 2 ^ p ≤ 32768 ∧ 0 < 2 ^ p := ⟨by have : 2 ^ p ≤ 2 ^ 15 := Nat.pow_le_pow_right (by omega) (by omega)
                                             omega, Nat.pow_pos (by omega)⟩
  have hw : wrap64 ((2 : Int) ^ p) = ((2 ^ p : Nat) : Int) := by
    have e : ((2 ^ p : Nat) : Int) = (2 : Int) ^ p := Int.natCast_pow 2 p
    rw [← e]
    generalize 2 ^ p = T at *
    unfold wrap64
    omega
  have hdg : dig ((2 ^ p : Nat) : Int) := by
    unfold dig
    generalize 2 ^ p = T at *
    omega
  have hrow := (dig_row w ((2 ^ p : Nat) : Int) 3).resolve_right (fun h => h hdg)
  have hB1 : Below w.heap.size w (w.alloc (.cells #[.int .i64 ((2 ^ p : Nat) : Int)] 3)) := (Below.refl _ w).alloc (Nat.le_refl _) _
  have ht : topped [((2 ^ p : Nat) : Int)] := topped_one.2 (by generalize 2 ^ p = T at *; omega)
  have M := hd (sShl (some ⟨w.heap.size, 0, none⟩) 1 1 [((2 ^ p : Nat) : Int)] P _ hrow (digs_cons.2 ⟨hdg, digs_nil⟩) ht (by omega) (by omega))
  rw [val_cons, val_nil, Int.toNat_natCast, Nat.mul_zero, Nat.add_zero, Nat.mul_comm] at M
  generalize natL (65536 ^ P * 2 ^ p) = ql at *
  clear hrow ht hdg hT
  generalize ((2 ^ p : Nat) : Int) = T at *
  have hp0 : (0 : Int) ≤ (p : Int) := by omega
  have hp1 : (p : Int) < 16 := by omega
  go_enter Tryz.func72, Tryz.ntmps72
  go_wp2_with fail
  refine M.out.mono ?_
  rintro e w1 ⟨⟨av, cv, rfl, hO⟩, hb1⟩
  go_wp2
  go_ret
  exact ⟨⟨_, _, rfl, hO.mono hB1.size⟩, old_trans hB1 hb1⟩
/-- a shift by k, down -/
def shV (v : Nat) (k : Int) : Nat := if 0 ≤ k then v * 2 ^ k.toNat else v / 2 ^ (-k).toNat
theorem split16q (n : Nat) : ∃ P p, n = 16 * P + p ∧ p < 16 := ⟨n / 16, n % 16, by omega, by omega⟩
end Go.Proofs.YtbcdeddbkckaeaaGreatDoor
