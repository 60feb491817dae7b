/- The contract of BitMake, of the program and of the specification, at every width, size and power: both answer alike; the library's table lies as its text lays it; nothing that was there is written. -/
import Derived.Test.YtljmmaaaeojbpaaDoorZ332
import Derived.Test.YtljmmaaaeojbpaaDoorZ364
import Derived.Test.YtljmmaaaeojbpaaDoorZ432
import Derived.Test.YtljmmaaaeojbpaaDoorZ464
namespace Go.Proofs.YtljmmaaaeojbpaaDoor
open Go.RowKit
set_option linter.unusedVariables false

def mkD (o : Nat) (k : Nat) : Int := ((o * 2 ^ k : Nat) : Int)
theorem mkD_facts (o z : Nat) (ho : o % 2 = 1) (hx : o * 2 ^ z < 2 ^ 64) : Hid ((mkD o 0 % 2 == 0) = false) ∧ Hid (∀ k, mkD o (k + 1) = mkD o k * 2) ∧ Hid (∀ k, 0 < mkD o k) ∧ Hid (∀ k, k ≤ z → mkD o k < 18446744073709551616) := by
  refine ⟨?_, ?_, ?_, ?_⟩
  · show _ = _; unfold mkD; simp; omega
  · intro k; unfold mkD; rw [Nat.pow_succ, ← Nat.mul_assoc]; push_cast; rfl
  · intro k; unfold mkD; have : 0 < o * 2 ^ k := Nat.mul_pos (by omega) (Nat.two_pow_pos k); omega
  · intro k hk; unfold mkD
    have : o * 2 ^ k ≤ o * 2 ^ z := Nat.mul_le_mul_left _ (Nat.pow_le_pow_right (by omega) hk)
    omega
theorem mkD_lt (o k f : Nat) (h0 : o ≠ 0) : mkD o k < ((2 ^ f : Nat) : Int) ↔ (k : Int) < (f : Int) - (o.log2 : Int) := by
  have a := Nat.log2_self_le h0
  have b := Nat.lt_log2_self (n := o)
  unfold mkD
  constructor
  · intro h
    have h' : o * 2 ^ k < 2 ^ f := by omega
    have c : 2 ^ (o.log2 + k) < 2 ^ f := by
      rw [Nat.pow_add]
      exact Nat.lt_of_le_of_lt (Nat.mul_le_mul_right _ a) h'
    have := (Nat.pow_lt_pow_iff_right (by omega : 1 < 2)).1 c
    omega
  · intro h
    have c : o * 2 ^ k < 2 ^ (o.log2 + 1) * 2 ^ k := Nat.mul_lt_mul_of_pos_right b (Nat.two_pow_pos k)
    rw [← Nat.pow_add] at c
    have d : 2 ^ (o.log2 + 1 + k) ≤ 2 ^ f := Nat.pow_le_pow_right (by omega) (by omega)
    omega

theorem sMake_32 (o z : Nat) (P : Int) (bl : Bool) (w : World) (hT : Tab w) (ho : o % 2 = 1) (hx : o * 2 ^ z < 2 ^ 64) (pl : -2000 ≤ P - (z : Int)) (ph : P - (z : Int) ≤ 2000) (zz : z ≤ 63) :
    Calls Tryd.prog 13 #[.int .i64 32, .agg #[.bool bl, .int .u64 ((o * 2 ^ z : Nat) : Int), .int .i64 (P - (z : Int))]] w fun e w' => MkPost (-149) 8388608 255 P (min (23 - (o.log2 : Int)) (P - (-149))) ((o * 2 ^ (min (23 - (o.log2 : Int)) (P - (-149))).toNat : Nat) : Int) bl e ∧ Below w.heap.size w w' := by
  obtain ⟨a1, a2, a3, a4⟩ := mkD_facts o z ho hx
  have ho0 : o ≠ 0 := by omega
  have hle : o ≤ o * 2 ^ z := Nat.le_mul_of_pos_right _ (Nat.two_pow_pos z)
  have hlog : o.log2 < 64 := (Nat.log2_lt ho0).2 (by omega)
  have a5 : Hid (∀ k : Nat, mkD o k < 8388608 ↔ (k : Int) < 23 - (o.log2 : Int)) := fun k => mkD_lt o k 23 ho0
  have a6 : Hid (∀ k : Nat, mkD o k < 16777216 ↔ (k : Int) ≤ 23 - (o.log2 : Int)) := fun k => by
    have h := mkD_lt o k 24 ho0
    have e : (((2 ^ 24 : Nat)) : Int) = 16777216 := by decide
    rw [e] at h
    rw [h]
    omega
  exact sMk_32 z P (23 - (o.log2 : Int)) _ (mkD o) bl w pl ph zz _ rfl rfl (by omega) (by omega) a1 a2 a3 a4 a5 a6

set_option maxHeartbeats 1000000 in
theorem iMake_32 (o z : Nat) (P : Int) (bl : Bool) (w : World) (hT : Tab w) (ho : o % 2 = 1) (hx : o * 2 ^ z < 2 ^ 64) (pl : -2000 ≤ P - (z : Int)) (ph : P - (z : Int) ≤ 2000) (zz : z ≤ 63) :
    Calls Tryd.prog 12 #[.int .i64 32, .agg #[.bool bl, .int .u64 ((o * 2 ^ z : Nat) : Int), .int .i64 (P - (z : Int))]] w fun e w' => MkPost (-149) 8388608 255 P (min (23 - (o.log2 : Int)) (P - (-149))) ((o * 2 ^ (min (23 - (o.log2 : Int)) (P - (-149))).toNat : Nat) : Int) bl e ∧ Below w.heap.size w w' := by
  have hS : Hid (∀ w, Tab w → Calls Tryd.prog 27 #[.iface 58 (.agg #[]), .int .u64 ((o * 2 ^ z : Nat) : Int), .int .i64 (P - (z : Int))] w fun e w' => MkPost (-149) 8388608 255 P (min (23 - (o.log2 : Int)) (P - (-149))) ((o * 2 ^ (min (23 - (o.log2 : Int)) (P - (-149))).toNat : Nat) : Int) false e ∧ Below w.heap.size w w') := fun w h => mkSize_32 o z P w h ho hx (by omega) (by omega) zz
  have hpos : 0 < o * 2 ^ z := Nat.mul_pos (by omega) (Nat.two_pow_pos z)
  have ho0 : o ≠ 0 := by omega
  have hD : ¬ ((min (23 - (o.log2 : Int)) (P - (-149))) < 0) → ((o * 2 ^ (min (23 - (o.log2 : Int)) (P - (-149))).toNat : Nat) : Int) < 16777216 := fun h => by
    have h1 := (mkD_lt o (min (23 - (o.log2 : Int)) (P - (-149))).toNat 24 ho0).2 (by omega)
    have e : (((2 ^ 24 : Nat)) : Int) = 16777216 := by decide
    rw [e] at h1
    exact h1
  have hDp : 0 < ((o * 2 ^ (min (23 - (o.log2 : Int)) (P - (-149))).toNat : Nat) : Int) := by
    have : 0 < o * 2 ^ (min (23 - (o.log2 : Int)) (P - (-149))).toNat := Nat.mul_pos (by omega) (Nat.two_pow_pos _)
    omega
  have s0 : (((o * 2 ^ z : Nat) : Int) == 0) = false := beq_eq_false_iff_ne.2 (by omega)
  have hML : (min (23 - (o.log2 : Int)) (P - (-149))) ≤ P - (-149) := by omega
  generalize ((o * 2 ^ z : Nat) : Int) = S at *
  generalize ((o * 2 ^ (min (23 - (o.log2 : Int)) (P - (-149))).toNat : Nat) : Int) = Dm at *
  generalize (min (23 - (o.log2 : Int)) (P - (-149))) = M at *
  have HD : Hid (¬ (M < 0) → Dm < 16777216) := hD
  have HP : Hid (0 < Dm) := hDp
  have t1 : decide (P - (z : Int) < -2000) = false := by simp; omega
  have t2 : decide (2000 < P - (z : Int)) = false := by simp; omega
  have HML : Hid (M ≤ P - (-149)) := hML
  clear hD hDp hpos hx ho ho0 hML
  go_enter Tryd.func12, Tryd.ntmps12
  go_wp2_with fail
  refine (formOf_32 _).mono ?_
  rintro e w1 ⟨rfl, hb1⟩
  obtain ⟨z0, _, _, _, _, _⟩ := bsize hb1
  have c0 : w1.cell? ⟨w.heap.size, 0, none⟩ = some (.bool bl) := (hb1.cell (p := ⟨w.heap.size, 0, none⟩) (by simp)).trans (by simp)
  have c1 : w1.cell? ⟨w.heap.size, 1, none⟩ = some (.int .u64 S) := (hb1.cell (p := ⟨w.heap.size, 1, none⟩) (by simp)).trans (by simp)
  have c2 : w1.cell? ⟨w.heap.size, 2, none⟩ = some (.int .i64 (P - (z : Int))) := (hb1.cell (p := ⟨w.heap.size, 2, none⟩) (by simp)).trans (by simp)
  have T1 : Tab w1 := (hT.old (old_alloc (Below.refl _ _) _)).old hb1
  clear hT
  go_wp2_with fail
  refine (hS.out _ T1).mono ?_
  rintro e w2 ⟨hp, hb2⟩
  have c3 : w2.cell? ⟨w.heap.size, 0, none⟩ = some (.bool bl) := (hb2.cell (p := ⟨w.heap.size, 0, none⟩) z0).trans c0
  clear c0 c1 c2 T1 hS
  by_cases hf : M < 0 ∨ 255 ≤ P - M - (-149) + 1
  · obtain rfl := hp.1 hf
    have HF : Hid (M < 0 ∨ 255 ≤ P - M - (-149) + 1) := hf
    clear hp hf
    go_wp2
    go_ret2
    exact ⟨MkPost.fail HF.out, (by repeat (first | exact Below.refl _ _ | refine Below.drew ?_ | refine Below.setCell ?_ (by simp) _ | refine old_alloc ?_ _ | refine old_trans ?_ (by assumption)))⟩
  · have f1 : 0 ≤ M := by omega
    have f2 : P - M - (-149) + 1 < 255 := by omega
    obtain rfl := hp.2 f1 f2
    simp only [Bool.false_eq_true, if_false]
    have hV : ∃ V, V = (P - M - (-149)) * 8388608 + Dm := ⟨_, rfl⟩
    obtain ⟨V, hV⟩ := hV
    rw [← hV]
    have v1 : -9000000000000000000 ≤ V := by have a := HD.out (by omega); have b := HP.out; have c := HML.out; omega
    have v2 : V ≤ 9223372036854775807 := by have a := HD.out (by omega); have b := HP.out; omega
    have HV : Hid (V = (P - M - (-149)) * 8388608 + Dm) := hV
    have F1 : Hid (0 ≤ M) := f1
    have F2 : Hid (P - M - (-149) + 1 < 255) := f2
    clear hp hf hV f1 f2
    cases bl
    · go_wp2
      go_ret2
      exact ⟨MkPost.ok F1.out F2.out (by rw [HV.out]; rfl), (by repeat (first | exact Below.refl _ _ | refine Below.drew ?_ | refine Below.setCell ?_ (by simp) _ | refine old_alloc ?_ _ | refine old_trans ?_ (by assumption)))⟩
    · go_wp2
      go_ret2
      exact ⟨MkPost.ok F1.out F2.out (by rw [HV.out]; rfl), (by repeat (first | exact Below.refl _ _ | refine Below.drew ?_ | refine Below.setCell ?_ (by simp) _ | refine old_alloc ?_ _ | refine old_trans ?_ (by assumption)))⟩

theorem sMake_64 (o z : Nat) (P : Int) (bl : Bool) (w : World) (hT : Tab w) (ho : o % 2 = 1) (hx : o * 2 ^ z < 2 ^ 64) (pl : -2000 ≤ P - (z : Int)) (ph : P - (z : Int) ≤ 2000) (zz : z ≤ 63) :
    Calls Tryd.prog 13 #[.int .i64 64, .agg #[.bool bl, .int .u64 ((o * 2 ^ z : Nat) : Int), .int .i64 (P - (z : Int))]] w fun e w' => MkPost (-1074) 4503599627370496 2047 P (min (52 - (o.log2 : Int)) (P - (-1074))) ((o * 2 ^ (min (52 - (o.log2 : Int)) (P - (-1074))).toNat : Nat) : Int) bl e ∧ Below w.heap.size w w' := by
  obtain ⟨a1, a2, a3, a4⟩ := mkD_facts o z ho hx
  have ho0 : o ≠ 0 := by omega
  have hle : o ≤ o * 2 ^ z := Nat.le_mul_of_pos_right _ (Nat.two_pow_pos z)
  have hlog : o.log2 < 64 := (Nat.log2_lt ho0).2 (by omega)
  have a5 : Hid (∀ k : Nat, mkD o k < 4503599627370496 ↔ (k : Int) < 52 - (o.log2 : Int)) := fun k => mkD_lt o k 52 ho0
  have a6 : Hid (∀ k : Nat, mkD o k < 9007199254740992 ↔ (k : Int) ≤ 52 - (o.log2 : Int)) := fun k => by
    have h := mkD_lt o k 53 ho0
    have e : (((2 ^ 53 : Nat)) : Int) = 9007199254740992 := by decide
    rw [e] at h
    rw [h]
    omega
  exact sMk_64 z P (52 - (o.log2 : Int)) _ (mkD o) bl w pl ph zz _ rfl rfl (by omega) (by omega) a1 a2 a3 a4 a5 a6

set_option maxHeartbeats 1000000 in
theorem iMake_64 (o z : Nat) (P : Int) (bl : Bool) (w : World) (hT : Tab w) (ho : o % 2 = 1) (hx : o * 2 ^ z < 2 ^ 64) (pl : -2000 ≤ P - (z : Int)) (ph : P - (z : Int) ≤ 2000) (zz : z ≤ 63) :
    Calls Tryd.prog 12 #[.int .i64 64, .agg #[.bool bl, .int .u64 ((o * 2 ^ z : Nat) : Int), .int .i64 (P - (z : Int))]] w fun e w' => MkPost (-1074) 4503599627370496 2047 P (min (52 - (o.log2 : Int)) (P - (-1074))) ((o * 2 ^ (min (52 - (o.log2 : Int)) (P - (-1074))).toNat : Nat) : Int) bl e ∧ Below w.heap.size w w' := by
  have hS : Hid (∀ w, Tab w → Calls Tryd.prog 27 #[.iface 61 (.agg #[]), .int .u64 ((o * 2 ^ z : Nat) : Int), .int .i64 (P - (z : Int))] w fun e w' => MkPost (-1074) 4503599627370496 2047 P (min (52 - (o.log2 : Int)) (P - (-1074))) ((o * 2 ^ (min (52 - (o.log2 : Int)) (P - (-1074))).toNat : Nat) : Int) false e ∧ Below w.heap.size w w') := fun w h => mkSize_64 o z P w h ho hx (by omega) (by omega) zz
  have hpos : 0 < o * 2 ^ z := Nat.mul_pos (by omega) (Nat.two_pow_pos z)
  have ho0 : o ≠ 0 := by omega
  have hD : ¬ ((min (52 - (o.log2 : Int)) (P - (-1074))) < 0) → ((o * 2 ^ (min (52 - (o.log2 : Int)) (P - (-1074))).toNat : Nat) : Int) < 9007199254740992 := fun h => by
    have h1 := (mkD_lt o (min (52 - (o.log2 : Int)) (P - (-1074))).toNat 53 ho0).2 (by omega)
    have e : (((2 ^ 53 : Nat)) : Int) = 9007199254740992 := by decide
    rw [e] at h1
    exact h1
  have hDp : 0 < ((o * 2 ^ (min (52 - (o.log2 : Int)) (P - (-1074))).toNat : Nat) : Int) := by
    have : 0 < o * 2 ^ (min (52 - (o.log2 : Int)) (P - (-1074))).toNat := Nat.mul_pos (by omega) (Nat.two_pow_pos _)
    omega
  have s0 : (((o * 2 ^ z : Nat) : Int) == 0) = false := beq_eq_false_iff_ne.2 (by omega)
  have hML : (min (52 - (o.log2 : Int)) (P - (-1074))) ≤ P - (-1074) := by omega
  generalize ((o * 2 ^ z : Nat) : Int) = S at *
  generalize ((o * 2 ^ (min (52 - (o.log2 : Int)) (P - (-1074))).toNat : Nat) : Int) = Dm at *
  generalize (min (52 - (o.log2 : Int)) (P - (-1074))) = M at *
  have HD : Hid (¬ (M < 0) → Dm < 9007199254740992) := hD
  have HP : Hid (0 < Dm) := hDp
  have t1 : decide (P - (z : Int) < -2000) = false := by simp; omega
  have t2 : decide (2000 < P - (z : Int)) = false := by simp; omega
  have HML : Hid (M ≤ P - (-1074)) := hML
  clear hD hDp hpos hx ho ho0 hML
  go_enter Tryd.func12, Tryd.ntmps12
  go_wp2_with fail
  refine (formOf_64 _).mono ?_
  rintro e w1 ⟨rfl, hb1⟩
  obtain ⟨z0, _, _, _, _, _⟩ := bsize hb1
  have c0 : w1.cell? ⟨w.heap.size, 0, none⟩ = some (.bool bl) := (hb1.cell (p := ⟨w.heap.size, 0, none⟩) (by simp)).trans (by simp)
  have c1 : w1.cell? ⟨w.heap.size, 1, none⟩ = some (.int .u64 S) := (hb1.cell (p := ⟨w.heap.size, 1, none⟩) (by simp)).trans (by simp)
  have c2 : w1.cell? ⟨w.heap.size, 2, none⟩ = some (.int .i64 (P - (z : Int))) := (hb1.cell (p := ⟨w.heap.size, 2, none⟩) (by simp)).trans (by simp)
  have T1 : Tab w1 := (hT.old (old_alloc (Below.refl _ _) _)).old hb1
  clear hT
  go_wp2_with fail
  refine (hS.out _ T1).mono ?_
  rintro e w2 ⟨hp, hb2⟩
  have c3 : w2.cell? ⟨w.heap.size, 0, none⟩ = some (.bool bl) := (hb2.cell (p := ⟨w.heap.size, 0, none⟩) z0).trans c0
  clear c0 c1 c2 T1 hS
  by_cases hf : M < 0 ∨ 2047 ≤ P - M - (-1074) + 1
  · obtain rfl := hp.1 hf
    have HF : Hid (M < 0 ∨ 2047 ≤ P - M - (-1074) + 1) := hf
    clear hp hf
    go_wp2
    go_ret2
    exact ⟨MkPost.fail HF.out, (by repeat (first | exact Below.refl _ _ | refine Below.drew ?_ | refine Below.setCell ?_ (by simp) _ | refine old_alloc ?_ _ | refine old_trans ?_ (by assumption)))⟩
  · have f1 : 0 ≤ M := by omega
    have f2 : P - M - (-1074) + 1 < 2047 := by omega
    obtain rfl := hp.2 f1 f2
    simp only [Bool.false_eq_true, if_false]
    have hV : ∃ V, V = (P - M - (-1074)) * 4503599627370496 + Dm := ⟨_, rfl⟩
    obtain ⟨V, hV⟩ := hV
    rw [← hV]
    have v1 : -9000000000000000000 ≤ V := by have a := HD.out (by omega); have b := HP.out; have c := HML.out; omega
    have v2 : V ≤ 9223372036854775807 := by have a := HD.out (by omega); have b := HP.out; omega
    have HV : Hid (V = (P - M - (-1074)) * 4503599627370496 + Dm) := hV
    have F1 : Hid (0 ≤ M) := f1
    have F2 : Hid (P - M - (-1074) + 1 < 2047) := f2
    clear hp hf hV f1 f2
    cases bl
    · go_wp2
      go_ret2
      exact ⟨MkPost.ok F1.out F2.out (by rw [HV.out]; rfl), (by repeat (first | exact Below.refl _ _ | refine Below.drew ?_ | refine Below.setCell ?_ (by simp) _ | refine old_alloc ?_ _ | refine old_trans ?_ (by assumption)))⟩
    · go_wp2
      go_ret2
      exact ⟨MkPost.ok F1.out F2.out (by rw [HV.out]; rfl), (by repeat (first | exact Below.refl _ _ | refine Below.drew ?_ | refine Below.setCell ?_ (by simp) _ | refine old_alloc ?_ _ | refine old_trans ?_ (by assumption)))⟩
end Go.Proofs.YtljmmaaaeojbpaaDoor
