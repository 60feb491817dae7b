/- Decimals of numbers, cut into groups with their noughts. Mathematics alone. -/
import Derived.Test.YtlfaiekcmflgnaaGreatDoorBB
import Derived.Lib.ItoaNum
import Derived.Lib.ItoaLen
namespace Go.Proofs.YtlfaiekcmflgnaaGreatDoor
open Go.RowKit Go.Lib
set_option linter.unusedVariables false
set_option maxRecDepth 100000

/-- the decimals of a number, none for 0 -/
def dD (x : Nat) : List UInt8 := if x = 0 then [] else decDigits x
theorem dD_zero : dD 0 = [] := rfl
theorem dD_pos {x : Nat} (h : x ≠ 0) : dD x = decDigits x := if_neg h
theorem dD_step {x : Nat} (h : x ≠ 0) : dD x = dD (x / 10) ++ [UInt8.ofNat (48 + x % 10)] := by
  rw [dD_pos h]
  by_cases g : x < 10
  · rw [decDigits_one g, show x / 10 = 0 by omega, dD_zero, show x % 10 = x by omega]; rfl
  · rw [decDigits, dif_neg g, dD_pos (by omega)]
theorem dec_ne (x : Nat) : decDigits x ≠ [] := by
  rw [decDigits]; split <;> simp
/-- the last k decimals of a number, with their noughts -/
def pad (k r : Nat) : List UInt8 := (decDigits (10 ^ k + r)).tail
theorem dec_pad (k : Nat) : ∀ (q r : Nat), q ≠ 0 → r < 10 ^ k → decDigits (q * 10 ^ k + r) = decDigits q ++ pad k r := by
  induction k with
  | zero =>
    intro q r hq hr
    obtain rfl : r = 0 := by simpa using hr
    simp [pad, decDigits_one]
  | succ k ih =>
    intro q r hq hr
    have hp : 10 ^ (k + 1) = 10 * 10 ^ k := by rw [Nat.pow_succ, Nat.mul_comm]
    have h10 : 0 < 10 ^ k := Nat.pow_pos (by decide)
    have e1 : q * 10 ^ (k + 1) + r = 10 * (q * 10 ^ k) + r := by rw [hp]; congr 1; rw [Nat.mul_left_comm]
    have hq1 : 10 ^ k ≤ q * 10 ^ k := Nat.le_mul_of_pos_left _ (Nat.pos_of_ne_zero hq)
    have hr2 : r / 10 < 10 ^ k := by rw [hp] at hr; omega
    have a1 : decDigits (q * 10 ^ (k + 1) + r) = decDigits (q * 10 ^ k + r / 10) ++ [UInt8.ofNat (48 + r % 10)] := by
      rw [decDigits, dif_neg (by rw [e1]; omega), e1, show (10 * (q * 10 ^ k) + r) / 10 = q * 10 ^ k + r / 10 by omega, show (10 * (q * 10 ^ k) + r) % 10 = r % 10 by omega]
    have a2 : decDigits (10 ^ (k + 1) + r) = decDigits (10 ^ k + r / 10) ++ [UInt8.ofNat (48 + r % 10)] := by
      rw [decDigits, dif_neg (by rw [hp]; omega), hp, show (10 * 10 ^ k + r) / 10 = 10 ^ k + r / 10 by omega, show (10 * 10 ^ k + r) % 10 = r % 10 by omega]
    rw [a1, ih q (r / 10) hq hr2]
    unfold pad
    rw [a2, List.tail_append_of_ne_nil (dec_ne _), List.append_assoc]
/-- groups of twelve decimals that came, one behind the other -/
def grp (cs : List Int) {n : Nat} (pre : List (Fin n)) : List UInt8 := pre.flatMap fun y => pad 12 (cs.getD y.val 0).toNat
theorem grp_snoc (cs : List Int) {n : Nat} (pre : List (Fin n)) (y : Fin n) : grp cs (pre ++ [y]) = grp cs pre ++ pad 12 (cs.getD y.val 0).toNat := by simp [grp]
/-- all groups, the last one ahead -/
def grps (cs : List Int) : List UInt8 := (downR cs.length cs.length).flatMap fun i => pad 12 (cs.getD i 0).toNat
theorem downR_top (n : Nat) : downR (n + 1) (n + 1) = n :: downR n n := by
  unfold downR
  rw [List.range_succ_eq_map, List.map_cons, List.map_map]
  refine List.cons_eq_cons.2 ⟨by omega, List.map_congr_left fun i hi => ?_⟩
  show n + 1 - 1 - (i + 1) = n - 1 - i
  omega
theorem grps_snoc (cs : List Int) (c : Int) : grps (cs ++ [c]) = pad 12 c.toNat ++ grps cs := by
  unfold grps
  rw [List.length_append, List.length_singleton, downR_top, List.flatMap_cons]
  have e1 : (cs ++ [c]).getD cs.length 0 = c := by
    rw [List.getD_eq_getElem?_getD, List.getElem?_append_right (Nat.le_refl _), Nat.sub_self]; rfl
  rw [e1]
  refine congrArg (fun z => pad 12 c.toNat ++ z) ?_
  · rw [List.flatMap_def, List.flatMap_def]
    refine congrArg _ (List.map_congr_left fun i hi => ?_)
    have hi' : i < cs.length := by
      unfold downR at hi
      obtain ⟨j, hj, rfl⟩ := List.mem_map.1 hi
      have := List.mem_range.1 hj
      omega
    rw [List.getD_eq_getElem?_getD, List.getElem?_append_left hi', List.getD_eq_getElem?_getD]
theorem grp_all {cs : List Int} {ys : List (Fin cs.length)} (h : ys.map Fin.val = downR cs.length cs.length) : grp cs ys = grps cs := by
  unfold grp grps
  rw [← h, List.flatMap_map]
/-- what was cut off a number so far: its value, what is left, the groups -/
def CutOff (V L : Nat) (cs : List Int) : Prop := ∃ (cs0 : List Int) (c : Nat), cs = cs0 ++ [(c : Int)] ∧ c < 10 ^ 12 ∧ (∀ i, i < cs0.length → 0 ≤ cs0.getD i 0 ∧ cs0.getD i 0 < 1000000000000) ∧ (L = 0 → decDigits V = decDigits c ++ grps cs0) ∧ (L ≠ 0 → decDigits V = decDigits L ++ grps cs)
theorem CutOff.first (V : Nat) : CutOff V (V / 10 ^ 12) [((V % 10 ^ 12 : Nat) : Int)] := by
  refine ⟨[], V % 10 ^ 12, rfl, Nat.mod_lt _ (by decide), fun i hi => by simp at hi, fun h => ?_, fun h => ?_⟩
  · rw [show V % 10 ^ 12 = V by omega]; simp [grps, downR]
  · have := dec_pad 12 (V / 10 ^ 12) (V % 10 ^ 12) h (Nat.mod_lt _ (by decide))
    rw [show [((V % 10 ^ 12 : Nat) : Int)] = [] ++ [((V % 10 ^ 12 : Nat) : Int)] from rfl, grps_snoc, Int.toNat_natCast]
    rw [show V / 10 ^ 12 * 10 ^ 12 + V % 10 ^ 12 = V by omega] at this
    rw [this]; simp [grps, downR]
theorem CutOff.next {V L : Nat} {cs : List Int} (h : CutOff V L cs) (hL : L ≠ 0) : CutOff V (L / 10 ^ 12) (cs ++ [((L % 10 ^ 12 : Nat) : Int)]) := by
  obtain ⟨cs0, c, rfl, hc, h0, h1, h2⟩ := h
  refine ⟨cs0 ++ [(c : Int)], L % 10 ^ 12, rfl, Nat.mod_lt _ (by decide), fun i hi => ?_, fun h => ?_, fun h => ?_⟩
  · by_cases g : i < cs0.length
    · rw [List.getD_eq_getElem?_getD, List.getElem?_append_left g, ← List.getD_eq_getElem?_getD]; exact h0 i g
    · obtain rfl : i = cs0.length := by simp at hi; omega
      rw [List.getD_eq_getElem?_getD, List.getElem?_append_right (Nat.le_refl _), Nat.sub_self]
      simp only [List.getElem?_cons_zero, Option.getD_some]
      exact ⟨by omega, by omega⟩
  · rw [h2 hL, show L % 10 ^ 12 = L by omega]
  · have := dec_pad 12 (L / 10 ^ 12) (L % 10 ^ 12) h (Nat.mod_lt _ (by decide))
    rw [show L / 10 ^ 12 * 10 ^ 12 + L % 10 ^ 12 = L by omega] at this
    rw [h2 hL, this, grps_snoc (cs0 ++ [(c : Int)]), Int.toNat_natCast, List.append_assoc]
theorem dec_len {x : Nat} (h : x ≤ 9223372036854775807) : (decDigits x).length ≤ 21 := by
  have := itoa_length_le (x : Int) (by omega) (by omega)
  unfold itoa at this
  rw [if_neg (by omega)] at this
  simpa using this
theorem pad_len {k r : Nat} (hr : 10 ^ k + r ≤ 9223372036854775807) : (pad k r).length ≤ 21 := by
  have := dec_len hr
  unfold pad
  rw [List.length_tail]; omega
theorem grp_len {cs : List Int} (h : ∀ i, i < cs.length → 0 ≤ cs.getD i 0 ∧ cs.getD i 0 < 1000000000000) (pre : List (Fin cs.length)) : (grp cs pre).length ≤ 21 * pre.length := by
  induction pre with
  | nil => simp [grp]
  | cons y pre ih =>
    have h1 := h y.val y.isLt
    have h2 : (pad 12 (cs.getD y.val 0).toNat).length ≤ 21 := pad_len (by omega)
    unfold grp at ih ⊢
    rw [List.flatMap_cons, List.length_append, List.length_cons]
    omega
end Go.Proofs.YtlfaiekcmflgnaaGreatDoor
