/- Powers of two and shifts, by the specification. Conditions: numbers. -/
import Derived.Test.YtglbbhkfodkljaaBD
import Derived.Test.YtglbbhkfodkljaaBC
namespace Go.Proofs.Ytglbbhkfodkljaa
open Go.RowKit
set_option linter.unusedVariables false

theorem pow2_split (P p : Nat) : 2 ^ (16 * P + p) = 65536 ^ P * 2 ^ p := by rw [Nat.pow_add, Nat.pow_mul]
set_option maxRecDepth 100000 in
set_option maxHeartbeats 2000000 in
theorem sPow2 (P p : Nat) (w : World) (hp : p < 16) (hP : P ≤ 1024) :
    Calls Try.prog 60 #[.int .i64 (16 * (P : Int) + p)] w fun e w' => (∃ av cv, e = .returned (.slice av (natL (65536 ^ P * 2 ^ p)).length cv) ∧ OI w' w.heap.size av cv (natL (65536 ^ P * 2 ^ p))) ∧ Below w.heap.size w w' := by
  have hq : (16 * (P : Int) + p) / 16 = P := by omega
  have hr : (16 * (P : Int) + p) % 16 = p := by omega
  have hT : 2 ^ p ≤ 32768 ∧ 0 < 2 ^ p := ⟨by have : 2 ^ p ≤ 2 ^ 15 := Nat.pow_le_pow_right (by omega) (by omega)
                                             omega, Nat.pow_pos (by omega)⟩
  have hw : wrap64 ((2 : Int) ^ p) = ((2 ^ p : Nat) : Int) := by
    have e : ((2 ^ p : Nat) : Int) = (2 : Int) ^ p := Int.natCast_pow 2 p
    rw [← e]
    generalize 2 ^ p = T at *
    unfold wrap64
    omega
  have hdg : dig ((2 ^ p : Nat) : Int) := by
    unfold dig
    generalize 2 ^ p = T at *
    omega
  have hrow := (dig_row w ((2 ^ p : Nat) : Int) 3).resolve_right (fun h => h hdg)
  have hB1 : Below w.heap.size w (w.alloc (.cells #[.int .i64 ((2 ^ p : Nat) : Int)] 3)) := (Below.refl _ w).alloc (Nat.le_refl _) _
  have ht : topped [((2 ^ p : Nat) : Int)] := topped_one.2 (by generalize 2 ^ p = T at *; omega)
  have M := hd (sShl (some ⟨w.heap.size, 0, none⟩) 1 1 [((2 ^ p : Nat) : Int)] P _ hrow (digs_cons.2 ⟨hdg, digs_nil⟩) ht (by omega) (by omega))
  rw [val_cons, val_nil, Int.toNat_natCast, Nat.mul_zero, Nat.add_zero, Nat.mul_comm] at M
  generalize natL (65536 ^ P * 2 ^ p) = ql at *
  clear hrow ht hdg hT
  generalize ((2 ^ p : Nat) : Int) = T at *
  have hp0 : (0 : Int) ≤ (p : Int) := by omega
  have hp1 : (p : Int) < 16 := by omega
  go_enter Try.func60, Try.ntmps60
  go_wp2_with fail
  refine M.out.mono ?_
  rintro e w1 ⟨⟨av, cv, rfl, hO⟩, hb1⟩
  go_wp2
  go_ret
  exact ⟨⟨_, _, rfl, hO.mono hB1.size⟩, old_trans hB1 hb1⟩
/-- a shift by k, down -/
def shV (v : Nat) (k : Int) : Nat := if 0 ≤ k then v * 2 ^ k.toNat else v / 2 ^ (-k).toNat
theorem split16q (n : Nat) : ∃ P p, n = 16 * P + p ∧ p < 16 := ⟨n / 16, n % 16, by omega, by omega⟩
set_option maxRecDepth 100000 in
set_option maxHeartbeats 2000000 in
theorem sShift (a : Option Addr) (len cap : Nat) (xs : List Int) (k : Int) (w : World) (hR : InI w a len cap xs) (hx : digs xs) (tx : topped xs) (hl : len ≤ 65536) (hk : -16384 ≤ k ∧ k ≤ 16384) :
    Calls Try.prog 38 #[.slice a len cap, .int .i64 k] w fun e w' => (∃ av cv, e = .returned (.slice av (natL (shV (val xs) k)).length cv) ∧ OI w' w.heap.size av cv (natL (shV (val xs) k))) ∧ Below w.heap.size w w' := by
  by_cases h0 : 0 ≤ k
  · obtain ⟨n, rfl⟩ := Int.eq_ofNat_of_zero_le h0
    have e : shV (val xs) (n : Int) = val xs * 2 ^ n := by unfold shV; rw [if_pos h0, Int.toNat_natCast]
    rw [e]
    obtain ⟨P, p, rfl, hp⟩ := split16q n
    rw [pow2_split]
    have M := hd (sPow2 P p w hp (by omega))
    have hTl : (natL (65536 ^ P * 2 ^ p)).length ≤ 1026 := by
      have h5 : (natL (65536 ^ P * 2 ^ p)).length ≤ P + 1 := natL_len.2 (by
        rw [Nat.pow_succ]
        refine Nat.mul_lt_mul_of_pos_left ?_ (Nat.pow_pos (by omega))
        calc 2 ^ p ≤ 2 ^ 15 := Nat.pow_le_pow_right (by omega) (by omega)
          _ < 65536 := by decide)
      omega
    have N2 := hd (fun av cv w' (h : OI w' w.heap.size av cv (natL (65536 ^ P * 2 ^ p))) (hb : Below w.heap.size w w') => sMul a av len _ cap cv xs (natL (65536 ^ P * 2 ^ p)) w' (hR.old hb) h.inI hx (digs_natL _) (by omega) (by omega))
    rw [val_natL] at N2
    clear e hTl
    rw [show (((16 * P + p : Nat) : Int)) = 16 * (P : Int) + (p : Int) by omega] at h0 hk ⊢
    generalize natL (val xs * (65536 ^ P * 2 ^ p)) = ql at *
    generalize natL (65536 ^ P * 2 ^ p) = tl at *
    generalize 16 * (P : Int) + (p : Int) = K at *
    go_enter Try.func38, Try.ntmps38
    go_wp2_with fail
    refine M.out.mono ?_
    rintro e w1 ⟨⟨av, cv, rfl, hO⟩, hb1⟩
    go_wp2_with fail
    refine (N2.out _ _ _ hO hb1).mono ?_
    rintro e w2 ⟨⟨av2, cv2, rfl, hO2⟩, hb2⟩
    go_wp2
    go_ret
    exact ⟨⟨_, _, rfl, hO2.mono hb1.size⟩, old_trans hb1 hb2⟩
  · obtain ⟨n, hn⟩ := Int.eq_ofNat_of_zero_le (show 0 ≤ -k by omega)
    have e : shV (val xs) k = val xs / 2 ^ n := by unfold shV; rw [if_neg h0, hn, Int.toNat_natCast]
    rw [e]
    obtain ⟨P, p, rfl, hp⟩ := split16q n
    rw [pow2_split]
    have M := hd (sPow2 P p w hp (by omega))
    have hTl : (natL (65536 ^ P * 2 ^ p)).length ≤ 1026 := by
      have h5 : (natL (65536 ^ P * 2 ^ p)).length ≤ P + 1 := natL_len.2 (by
        rw [Nat.pow_succ]
        refine Nat.mul_lt_mul_of_pos_left ?_ (Nat.pow_pos (by omega))
        calc 2 ^ p ≤ 2 ^ 15 := Nat.pow_le_pow_right (by omega) (by omega)
          _ < 65536 := by decide)
      omega
    have hT0 : 0 < (natL (65536 ^ P * 2 ^ p)).length := natL_length_pos (Nat.mul_pos (Nat.pow_pos (by omega)) (Nat.pow_pos (by omega)))
    have N2 := hd (fun av cv w' (h : OI w' w.heap.size av cv (natL (65536 ^ P * 2 ^ p))) (hb : Below w.heap.size w w') => sDiv a av len _ cap cv xs (natL (65536 ^ P * 2 ^ p)) w' (hR.old hb) h.inI hx (digs_natL _) tx (topped_natL _) hl (by omega) hT0)
    rw [val_natL] at N2
    clear e hTl hT0
    have hkn : -k = 16 * (P : Int) + (p : Int) := by omega
    rw [← hkn] at M
    clear hn hkn
    generalize natL (val xs / (65536 ^ P * 2 ^ p)) = ql at *
    generalize natL (val xs % (65536 ^ P * 2 ^ p)) = rl at *
    generalize natL (65536 ^ P * 2 ^ p) = tl at *
    go_enter Try.func38, Try.ntmps38
    go_wp2_with fail
    refine M.out.mono ?_
    rintro e w1 ⟨⟨av, cv, rfl, hO⟩, hb1⟩
    go_wp2_with fail
    refine (N2.out _ _ _ hO hb1).mono ?_
    rintro e w2 ⟨⟨av2, cv2, av3, cv3, rfl, hO2, hO3, -⟩, hb2⟩
    go_wp2
    go_ret
    exact ⟨⟨_, _, rfl, hO2.mono hb1.size⟩, old_trans hb1 hb2⟩
end Go.Proofs.Ytglbbhkfodkljaa
