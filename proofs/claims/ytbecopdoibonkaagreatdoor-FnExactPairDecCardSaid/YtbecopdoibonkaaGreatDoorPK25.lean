/- Numbers read from decimals: what is read, and the specification's reading. No condition but the text's length. -/
import Derived.Test.YtbecopdoibonkaaGreatDoorPK14
import Derived.Test.YtbecopdoibonkaaGreatDoorPK13
import Derived.Test.YtbecopdoibonkaaGreatDoorPK01
import Derived.Deep.RegionHeld3
import Derived.Lib.ConvBytes
namespace Go.Proofs.YtbecopdoibonkaaGreatDoor
open Go.RowKit
set_option linter.unusedVariables false
set_option maxRecDepth 100000

/-- the number of the first k signs -/
def nv (s : ByteArray) : Nat → Nat
  | 0 => 0
  | k + 1 => nv s k * 10 + ((byt s k).toNat - 48)
theorem nv_lt (s : ByteArray) (k : Nat) : nv s k < 65536 ^ k := by
  induction k with
  | zero => simp [nv]
  | succ k ih =>
    have h := byt_bd s k
    rw [nv, Nat.pow_succ]
    generalize 65536 ^ k = z at *
    omega
theorem isD_b {n : Int} (h : isD n = true) : 48 ≤ n ∧ n ≤ 57 := by unfold isD at h; simpa using h
end Go.Proofs.YtbecopdoibonkaaGreatDoor

/- Numbers read from decimals, by the program: whether a text is decimals; small ones. No condition but the text's length. -/
namespace Go.Proofs.YtbecopdoibonkaaGreatDoor
open Go.RowKit
set_option linter.unusedVariables false
set_option maxRecDepth 100000

theorem size_nilN {s : ByteArray} (h : s.size = 0) : s = ⟨#[]⟩ := by
  obtain ⟨d⟩ := s
  have : d.size = 0 := h
  rw [Array.size_eq_zero_iff.1 this]
end Go.Proofs.YtbecopdoibonkaaGreatDoor

/- Small decimals as numbers of the machine, and the powers of ten. No condition but the text's length. -/
namespace Go.Proofs.YtbecopdoibonkaaGreatDoor
open Go.RowKit
set_option linter.unusedVariables false
set_option maxRecDepth 100000

theorem nv_ten {t : ByteArray} {k : Nat} (h : ∀ i, i < k → isD (byt t i) = true) : nv t k < 10 ^ k := by
  induction k with
  | zero => simp [nv]
  | succ k ih =>
    have h1 := ih (fun i hi => h i (by omega))
    have h2 := isD_b (h k (by omega))
    rw [nv, Nat.pow_succ]
    omega
set_option maxRecDepth 100000 in
set_option maxHeartbeats 4000000 in
theorem iAtoi0 (t : ByteArray) (h1 : 1 ≤ t.size) (h2 : t.size ≤ 12) (hdg : ∀ i, i < t.size → isD (byt t i) = true) (w : World) :
    Calls Tryz.prog 83 #[.string t] w fun e w' => e = .returned (.tuple #[.int .i64 ((nv t t.size : Nat) : Int), .nilIface]) ∧ Below w.heap.size w w' := by
  have ix := idxS0 Tryz.underlying9 t (by omega)
  have b0 := isD_b (hdg 0 (by omega))
  have hdg' := hd hdg
  clear hdg
  have i1 : (1 : Int) ≤ (t.size : Int) := by omega
  have i2 : (t.size : Int) ≤ 12 := by omega
  have e1 : (byt t 0 == 45) = false := by simp; omega
  have e2 : (byt t 0 == 43) = false := by simp; omega
  have cv := Lib.run_convert_string_bytes (P := Tryz.prog) w 9 163 5 t Tryz.underlying9 Tryz.underlying163 Tryz.underlying5
  have hBw := Go.Joins.below_bytesWorld w.heap.size w 5 t (Nat.le_refl _)
  have hcell : Hid (∀ j, j < t.size → (Lib.bytesWorld w 5 t).cell? ⟨w.heap.size, j, none⟩ = some (.int .u8 (byt t j))) := fun j hj => Lib.bytesWorld_cell w 5 t j hj
  generalize Lib.bytesWorld w 5 t = W1 at *
  generalize grownCap w t.size 0 5 = cp at *
  go_enter Tryz.func83, Tryz.ntmps83
  go_wp2
  go_loopw [6, 49] (fun n i wr => ∃ (k : Nat), k ≤ t.size ∧ i = .int .i64 k ∧ n = .int .i64 ((nv t k : Nat) : Int) ∧ wr = W1) (fun _ i _ => t.size - (intOf i).toNat)
  case atStart => exact ⟨0, by omega, rfl, rfl, rfl⟩
  case round =>
    obtain ⟨k, hk, rfl, rfl, rfl⟩ := hrel
    by_cases hlt : k < t.size
    · have ck := hcell.out k hlt
      have hc := isD_b (hdg'.out k hlt)
      have hst : Hid (nv t (k + 1) = nv t k * 10 + ((byt t k).toNat - 48)) := rfl
      have hkI : (k : Int) < (t.size : Int) := by omega
      have hbd : nv t k < 10 ^ k := nv_ten (fun i hi => hdg'.out i (by omega))
      have hbd2 : 10 ^ k ≤ 10 ^ 12 := Nat.pow_le_pow_right (by omega) (by omega)
      have hbd3 : ((nv t k : Nat) : Int) ≤ 1000000000000 := by omega
      have hbd4 : (0 : Int) ≤ ((nv t k : Nat) : Int) := by omega
      have hnx : Hid (((nv t k * 10 + ((byt t k).toNat - 48) : Nat) : Int) = ((nv t k : Nat) : Int) * 10 + (byt t k - 48)) := by show _ = _; omega
      clear hbd hbd2
      generalize hvn : ((nv t k : Nat) : Int) = vn at *
      generalize byt t k = bt at *
      have hw1 : IntKind.u8.wrap (bt - 48) = bt - 48 := by rw [IntKind.wrap_u8]; omega
      have hw2 : IntKind.i64.wrap (bt - 48) = bt - 48 := by rw [IntKind.wrap_i64]; omega
      have q2 : ¬ bt - 48 > 9 := by omega
      obtain ⟨hc1, hc2⟩ := hc
      go_wp2
      go_roundw
      case rel => exact ⟨k + 1, by omega, by go_num, by rw [hst.out]; rw [hnx.out], by first | rfl | trivial⟩
      case measure => simp [intOf]; omega
    · obtain rfl : k = t.size := by omega
      have hni : ¬ ((t.size : Int) < (t.size : Int)) := by omega
      go_wp2
      go_ret2
      exact ⟨rfl, hBw⟩
theorem iAtoi (t : ByteArray) (h1 : 1 ≤ t.size) (h2 : t.size ≤ 12) (hdg : ∀ i, i < t.size → isD (byt t i) = true) (w : World) :
    Calls Tryz.prog 59 #[.string t] w fun e w' => e = .returned (.tuple #[.int .i64 ((nv t t.size : Nat) : Int), .nilIface]) ∧ Below w.heap.size w w' := by
  have A := hd (iAtoi0 t h1 h2 hdg w)
  clear hdg
  generalize ((nv t t.size : Nat) : Int) = v at *
  go_enter Tryz.func59, Tryz.ntmps59
  go_wp2_with fail
  refine A.out.mono ?_
  rintro e w1 ⟨rfl, hb1⟩
  go_wp2
  go_ret2
  exact ⟨rfl, hb1⟩
/-- the cells of the table of powers, k of them made -/
def tenC (k : Nat) : List Value := (List.range 13).map (fun i => .int .i64 (if i ≤ k then ((10 ^ i : Nat) : Int) else 0))
theorem tenC_at {k i : Nat} (h : i < 13) : (tenC k)[i]? = some (.int .i64 (if i ≤ k then ((10 ^ i : Nat) : Int) else 0)) := by simp [tenC, h]
theorem tenC_step {k : Nat} (h : k < 12) : (tenC k).set (k + 1) (.int .i64 ((10 ^ (k + 1) : Nat) : Int)) = tenC (k + 1) := by
  apply List.ext_getElem?
  intro i
  by_cases hi : i < 13
  · by_cases e : i = k + 1
    · subst e
      rw [List.getElem?_set_self (by simp [tenC]; omega), tenC_at hi, if_pos (Nat.le_refl _)]
    · rw [List.getElem?_set_ne (by omega), tenC_at hi, tenC_at hi]
      by_cases h1 : i ≤ k
      · rw [if_pos h1, if_pos (by omega)]
      · rw [if_neg h1, if_neg (by omega)]
  · rw [List.getElem?_eq_none (by simp [tenC]; omega), List.getElem?_eq_none (by simp [tenC]; omega)]
def tenV : Value := .agg #[.int .i64 1, .int .i64 10, .int .i64 100, .int .i64 1000, .int .i64 10000, .int .i64 100000, .int .i64 1000000, .int .i64 10000000, .int .i64 100000000, .int .i64 1000000000, .int .i64 10000000000, .int .i64 100000000000, .int .i64 1000000000000]
theorem tenC12 : tenC 12 = [.int .i64 1, .int .i64 10, .int .i64 100, .int .i64 1000, .int .i64 10000, .int .i64 100000, .int .i64 1000000, .int .i64 10000000, .int .i64 100000000, .int .i64 1000000000, .int .i64 10000000000, .int .i64 100000000000, .int .i64 1000000000000] := by rfl
set_option maxRecDepth 100000 in
set_option maxHeartbeats 8000000 in
theorem iTenPowers (w : World) : Calls Tryz.prog 58 #[] w fun e w' => e = .returned tenV ∧ Below w.heap.size w w' := by
  have Z1 : CS ((w.alloc (.cells #[.int .i64 0, .int .i64 0, .int .i64 0, .int .i64 0, .int .i64 0, .int .i64 0, .int .i64 0, .int .i64 0, .int .i64 0, .int .i64 0, .int .i64 0, .int .i64 0, .int .i64 0] 105)).alloc (.cells #[.int .i64 1, .int .i64 0, .int .i64 0, .int .i64 0, .int .i64 0, .int .i64 0, .int .i64 0, .int .i64 0, .int .i64 0, .int .i64 0, .int .i64 0, .int .i64 0, .int .i64 0] 105)) w.heap.size [.int .i64 0, .int .i64 0, .int .i64 0, .int .i64 0, .int .i64 0, .int .i64 0, .int .i64 0, .int .i64 0, .int .i64 0, .int .i64 0, .int .i64 0, .int .i64 0, .int .i64 0] := (CS.made w _ rfl #[.int .i64 0, .int .i64 0, .int .i64 0, .int .i64 0, .int .i64 0, .int .i64 0, .int .i64 0, .int .i64 0, .int .i64 0, .int .i64 0, .int .i64 0, .int .i64 0, .int .i64 0] 105).alloc _
  have T1 : CS ((w.alloc (.cells #[.int .i64 0, .int .i64 0, .int .i64 0, .int .i64 0, .int .i64 0, .int .i64 0, .int .i64 0, .int .i64 0, .int .i64 0, .int .i64 0, .int .i64 0, .int .i64 0, .int .i64 0] 105)).alloc (.cells #[.int .i64 1, .int .i64 0, .int .i64 0, .int .i64 0, .int .i64 0, .int .i64 0, .int .i64 0, .int .i64 0, .int .i64 0, .int .i64 0, .int .i64 0, .int .i64 0, .int .i64 0] 105)) (w.heap.size + 1) [.int .i64 1, .int .i64 0, .int .i64 0, .int .i64 0, .int .i64 0, .int .i64 0, .int .i64 0, .int .i64 0, .int .i64 0, .int .i64 0, .int .i64 0, .int .i64 0, .int .i64 0] := CS.made _ _ (by simp) #[.int .i64 1, .int .i64 0, .int .i64 0, .int .i64 0, .int .i64 0, .int .i64 0, .int .i64 0, .int .i64 0, .int .i64 0, .int .i64 0, .int .i64 0, .int .i64 0, .int .i64 0] 105
  have hB0 : Below w.heap.size w ((w.alloc (.cells #[.int .i64 0, .int .i64 0, .int .i64 0, .int .i64 0, .int .i64 0, .int .i64 0, .int .i64 0, .int .i64 0, .int .i64 0, .int .i64 0, .int .i64 0, .int .i64 0, .int .i64 0] 105)).alloc (.cells #[.int .i64 1, .int .i64 0, .int .i64 0, .int .i64 0, .int .i64 0, .int .i64 0, .int .i64 0, .int .i64 0, .int .i64 0, .int .i64 0, .int .i64 0, .int .i64 0, .int .i64 0] 105)) := (by repeat (first | exact Below.refl _ _ | refine Below.drew ?_ | refine old_alloc ?_ _ | refine old_trans ?_ (by assumption)))
  go_enter Tryz.func58, Tryz.ntmps58
  go_wp2
  go_loopw [4] (fun i wr => ∃ (k : Nat), k ≤ 12 ∧ i = .int .i64 k ∧ CS wr (w.heap.size + 1) (tenC k) ∧ CS wr w.heap.size [.int .i64 0, .int .i64 0, .int .i64 0, .int .i64 0, .int .i64 0, .int .i64 0, .int .i64 0, .int .i64 0, .int .i64 0, .int .i64 0, .int .i64 0, .int .i64 0, .int .i64 0] ∧ Below w.heap.size w wr) (fun i _ => 12 - (intOf i).toNat)
  case atStart => exact ⟨0, by omega, rfl, T1, Z1, hB0⟩
  case round =>
    clear Z1 T1 hB0
    obtain ⟨k, hk, rfl, T, Z, hb⟩ := hrel
    by_cases hlt : k < 12
    · have ck := T.cell k _ (tenC_at (by omega))
      have cn := T.cell (k + 1) _ (tenC_at (by omega))
      have fn := T.froz (k + 1) (by simp [tenC]; omega)
      rw [if_pos (Nat.le_refl _)] at ck
      have hp : 10 ^ k ≤ 10 ^ 12 := Nat.pow_le_pow_right (by omega) (by omega)
      have hp2 : ((10 ^ k : Nat) : Int) ≤ 1000000000000 := by omega
      have hp3 : (0 : Int) ≤ ((10 ^ k : Nat) : Int) := Int.natCast_nonneg _
      have hT := T.stored (i := k + 1) (.int .i64 ((10 ^ (k + 1) : Nat) : Int)) (by simp [tenC]; omega)
      rw [tenC_step hlt] at hT
      have hZ := Z.far (c := w.heap.size + 1) (i := k + 1) (by omega) (.int .i64 ((10 ^ (k + 1) : Nat) : Int))
      have hBn : Below w.heap.size w (wr.setCell ⟨w.heap.size + 1, k + 1, none⟩ (.int .i64 ((10 ^ (k + 1) : Nat) : Int))) := hb.setCell (by simp) _
      have hnx : ((10 ^ (k + 1) : Nat) : Int) = 10 * ((10 ^ k : Nat) : Int) := by rw [Nat.pow_succ]; omega
      rw [hnx] at hT hZ hBn
      clear hnx hp
      generalize ((10 ^ k : Nat) : Int) = pk at *
      have hkI : (k : Int) < 12 := by omega
      go_wp2
      go_roundw
      case rel => exact ⟨k + 1, by omega, by go_num, hT, hZ, hBn⟩
      case measure => simp [intOf]; omega
    · obtain rfl : k = 12 := by omega
      rw [tenC12] at T
      have c0 := T.cell 0 _ rfl
      have c1 := T.cell 1 _ rfl
      have c2 := T.cell 2 _ rfl
      have c3 := T.cell 3 _ rfl
      have c4 := T.cell 4 _ rfl
      have c5 := T.cell 5 _ rfl
      have c6 := T.cell 6 _ rfl
      have c7 := T.cell 7 _ rfl
      have c8 := T.cell 8 _ rfl
      have c9 := T.cell 9 _ rfl
      have c10 := T.cell 10 _ rfl
      have c11 := T.cell 11 _ rfl
      have c12 := T.cell 12 _ rfl
      have z0 := Z.froz 0 (by decide)
      have y0 := Z.cell 0 _ rfl
      have z1 := Z.froz 1 (by decide)
      have y1 := Z.cell 1 _ rfl
      have z2 := Z.froz 2 (by decide)
      have y2 := Z.cell 2 _ rfl
      have z3 := Z.froz 3 (by decide)
      have y3 := Z.cell 3 _ rfl
      have z4 := Z.froz 4 (by decide)
      have y4 := Z.cell 4 _ rfl
      have z5 := Z.froz 5 (by decide)
      have y5 := Z.cell 5 _ rfl
      have z6 := Z.froz 6 (by decide)
      have y6 := Z.cell 6 _ rfl
      have z7 := Z.froz 7 (by decide)
      have y7 := Z.cell 7 _ rfl
      have z8 := Z.froz 8 (by decide)
      have y8 := Z.cell 8 _ rfl
      have z9 := Z.froz 9 (by decide)
      have y9 := Z.cell 9 _ rfl
      have z10 := Z.froz 10 (by decide)
      have y10 := Z.cell 10 _ rfl
      have z11 := Z.froz 11 (by decide)
      have y11 := Z.cell 11 _ rfl
      have z12 := Z.froz 12 (by decide)
      have y12 := Z.cell 12 _ rfl
      have P := (((((((((((((Z.stored (i := 0) (.int .i64 1) (by decide)).stored (i := 1) (.int .i64 10) (by decide)).stored (i := 2) (.int .i64 100) (by decide)).stored (i := 3) (.int .i64 1000) (by decide)).stored (i := 4) (.int .i64 10000) (by decide)).stored (i := 5) (.int .i64 100000) (by decide)).stored (i := 6) (.int .i64 1000000) (by decide)).stored (i := 7) (.int .i64 10000000) (by decide)).stored (i := 8) (.int .i64 100000000) (by decide)).stored (i := 9) (.int .i64 1000000000) (by decide)).stored (i := 10) (.int .i64 10000000000) (by decide)).stored (i := 11) (.int .i64 100000000000) (by decide)).stored (i := 12) (.int .i64 1000000000000) (by decide))
      have hBf := (((((((((((((hb.setCell (p := ⟨w.heap.size, 0, none⟩) (Nat.le_refl _) (.int .i64 1)).setCell (p := ⟨w.heap.size, 1, none⟩) (Nat.le_refl _) (.int .i64 10)).setCell (p := ⟨w.heap.size, 2, none⟩) (Nat.le_refl _) (.int .i64 100)).setCell (p := ⟨w.heap.size, 3, none⟩) (Nat.le_refl _) (.int .i64 1000)).setCell (p := ⟨w.heap.size, 4, none⟩) (Nat.le_refl _) (.int .i64 10000)).setCell (p := ⟨w.heap.size, 5, none⟩) (Nat.le_refl _) (.int .i64 100000)).setCell (p := ⟨w.heap.size, 6, none⟩) (Nat.le_refl _) (.int .i64 1000000)).setCell (p := ⟨w.heap.size, 7, none⟩) (Nat.le_refl _) (.int .i64 10000000)).setCell (p := ⟨w.heap.size, 8, none⟩) (Nat.le_refl _) (.int .i64 100000000)).setCell (p := ⟨w.heap.size, 9, none⟩) (Nat.le_refl _) (.int .i64 1000000000)).setCell (p := ⟨w.heap.size, 10, none⟩) (Nat.le_refl _) (.int .i64 10000000000)).setCell (p := ⟨w.heap.size, 11, none⟩) (Nat.le_refl _) (.int .i64 100000000000)).setCell (p := ⟨w.heap.size, 12, none⟩) (Nat.le_refl _) (.int .i64 1000000000000))
      go_wp2
      refine bodyPost_ret (v := tenV) ?_ rfl ⟨rfl, hBf⟩
      simp [results, Tryz.results58, go_sem, tenV, P.cell 0 _ rfl, P.cell 1 _ rfl, P.cell 2 _ rfl, P.cell 3 _ rfl, P.cell 4 _ rfl, P.cell 5 _ rfl, P.cell 6 _ rfl, P.cell 7 _ rfl, P.cell 8 _ rfl, P.cell 9 _ rfl, P.cell 10 _ rfl, P.cell 11 _ rfl, P.cell 12 _ rfl]
end Go.Proofs.YtbecopdoibonkaaGreatDoor
