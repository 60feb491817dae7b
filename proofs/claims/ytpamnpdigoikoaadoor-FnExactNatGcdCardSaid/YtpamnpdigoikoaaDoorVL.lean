/- Rests by the highest digits: the program's search for how often both numbers are taken in them. -/
import Derived.Test.YtpamnpdigoikoaaDoorVK
import Derived.Deep.LoopGhost
namespace Go.Proofs.YtpamnpdigoikoaaDoor
open Go.RowKit
set_option linter.unusedVariables false
set_option maxRecDepth 100000

set_option maxHeartbeats 1000000 in
theorem iNoRests (w : World) : Calls Tryd.prog 98 #[] w fun e w' => e = .returned (.agg #[.int .i64 1, .int .i64 0, .int .i64 0, .int .i64 1]) ∧ Below w.heap.size w w' := by
  go_enter Tryd.func98, Tryd.ntmps98
  go_wp2
  refine bodyPost_ret (v := .agg #[.int .i64 1, .int .i64 0, .int .i64 0, .int .i64 1]) ?_ rfl ⟨rfl, (by repeat (first | exact Below.refl _ _ | refine Below.drew ?_ | refine Below.setCell ?_ (by first | (simp; done) | omega | (simp; omega)) _ | refine old_alloc ?_ _ | refine old_trans ?_ (by assumption)))⟩
  simp [results, Tryd.results98, go_sem]
/-- the four numbers in a block -/
def Four (w : World) (b : Nat) (p0 p1 q0 q1 : Int) : Prop := w.cell? ⟨b, 0, none⟩ = some (.int .i64 p0) ∧ w.cell? ⟨b, 1, none⟩ = some (.int .i64 p1) ∧ w.cell? ⟨b, 2, none⟩ = some (.int .i64 q0) ∧ w.cell? ⟨b, 3, none⟩ = some (.int .i64 q1)
def GoodRests (x0 y0 p0 p1 q0 q1 : Int) : Prop := (p0 = 1 ∧ p1 = 0 ∧ q0 = 0 ∧ q1 = 1) ∨ ∃ x y e P0 P1 Q0 Q1, Lem x0 y0 p0 p1 q0 q1 x y e P0 P1 Q0 Q1 ∧ y + q0 < x + p0 ∧ y + q1 < x + p1 ∧ x + p0 ≤ y0 ∧ x + p1 ≤ y0 + 1
/-- ahead of a round -/
def LemR (x0 y0 p0 p1 q0 q1 x y : Int) : Prop := (∃ e P0 P1 Q0 Q1, Lem x0 y0 p0 p1 q0 q1 x y e P0 P1 Q0 Q1) ∧ ((p0 = 1 ∧ p1 = 0 ∧ q0 = 0 ∧ q1 = 1 ∧ x = x0 ∧ y = y0) ∨ (y + q0 < x + p0 ∧ y + q1 < x + p1 ∧ x + p0 ≤ y0 ∧ x + p1 ≤ y0 + 1))
theorem LemR.good {x0 y0 p0 p1 q0 q1 x y : Int} (h : LemR x0 y0 p0 p1 q0 q1 x y) : GoodRests x0 y0 p0 p1 q0 q1 := by
  obtain ⟨⟨e, P0, P1, Q0, Q1, h1⟩, h2⟩ := h
  rcases h2 with h2 | h2
  · exact .inl ⟨h2.1, h2.2.1, h2.2.2.1, h2.2.2.2.1⟩
  · exact .inr ⟨x, y, e, P0, P1, Q0, Q1, h1, h2⟩
theorem LemR.start {x0 y0 : Int} (hx : 0 ≤ x0) (hy : 0 ≤ y0) : LemR x0 y0 1 0 0 1 x0 y0 := ⟨⟨_, _, _, _, _, Lem.start hx hy⟩, .inl ⟨rfl, rfl, rfl, rfl, rfl, rfl⟩⟩
/-- bounds of all that comes up -/
theorem Lem.bd {x0 y0 p0 p1 q0 q1 x y e P0 P1 Q0 Q1 : Int} (h : Lem x0 y0 p0 p1 q0 q1 x y e P0 P1 Q0 Q1) : (-16777216 ≤ p0 ∧ p0 ≤ 16777216) ∧ (-16777216 ≤ p1 ∧ p1 ≤ 16777216) ∧ (-16777216 ≤ q0 ∧ q0 ≤ 16777216) ∧ (-16777216 ≤ q1 ∧ q1 ≤ 16777216) := by
  have := h.b0; have := h.b1; have := h.c0; have := h.c1
  have := h.ep0; have := h.ep1; have := h.eq0; have := h.eq1
  rcases h.sg with rfl | rfl
  · omega
  · omega
theorem LemR.bd {x0 y0 p0 p1 q0 q1 x y : Int} (h : LemR x0 y0 p0 p1 q0 q1 x y) (hx : 0 ≤ x0 ∧ x0 < 281474976710656) (hy : 0 ≤ y0 ∧ y0 < 281474976710656) (hxy : y0 ≤ x0) :
    ((-16777216 ≤ p0 ∧ p0 ≤ 16777216) ∧ (-16777216 ≤ p1 ∧ p1 ≤ 16777216) ∧ (-16777216 ≤ q0 ∧ q0 ≤ 16777216) ∧ (-16777216 ≤ q1 ∧ q1 ≤ 16777216)) ∧ (0 ≤ x + p0 ∧ x + p0 ≤ 281474976710656) ∧ (0 ≤ x + p1 ∧ x + p1 ≤ 281474976710656) ∧ (0 ≤ y + q0 ∧ y + q0 ≤ 281474976710656) ∧ (0 ≤ y + q1 ∧ y + q1 ≤ 281474976710656) := by
  obtain ⟨⟨e, P0, P1, Q0, Q1, h1⟩, h2⟩ := h
  refine ⟨h1.bd, ?_⟩
  have := h1.n0; have := h1.n1; have := h1.m0; have := h1.m1
  rcases h2 with ⟨rfl, rfl, rfl, rfl, rfl, rfl⟩ | h2
  · omega
  · omega
theorem LemR.step {x0 y0 p0 p1 q0 q1 x y k : Int} (h : LemR x0 y0 p0 p1 q0 q1 x y) (hx : 0 ≤ x0 ∧ x0 < 281474976710656) (hy : 0 ≤ y0 ∧ y0 < 281474976710656) (v0 : 0 < y + q0) (v1 : 0 < y + q1) (k0 : k = (x + p0) / (y + q0)) (k1 : k = (x + p1) / (y + q1)) :
    LemR x0 y0 q0 q1 (p0 - k * q0) (p1 - k * q1) y (x - k * y) ∧ (x - k * y) + (p0 - k * q0) < y + q0 := by
  obtain ⟨⟨e, P0, P1, Q0, Q1, h1⟩, h2⟩ := h
  obtain ⟨a, b, c, d⟩ := h1.step hx hy v0 v1 k0 k1
  refine ⟨⟨⟨_, _, _, _, _, a⟩, .inr ⟨b, c, ?_, ?_⟩⟩, b⟩
  · rcases h2 with ⟨rfl, rfl, rfl, rfl, rfl, rfl⟩ | h2
    · omega
    · omega
  · rcases h2 with ⟨rfl, rfl, rfl, rfl, rfl, rfl⟩ | h2
    · omega
    · omega
theorem drop_bd {xs : List Int} {m j : Nat} (hx : digs xs) (hl : xs.length ≤ m + 3) (hj : m < j) : val (xs.drop j) < 4294967296 := by
  rw [val_drop_div hx]
  have h1 := val_lt hx
  have h2 : 65536 ^ xs.length ≤ 65536 ^ j * 65536 ^ 2 := by rw [← Nat.pow_add]; exact Nat.pow_le_pow_right (by omega) (by omega)
  exact Nat.div_lt_of_lt_mul (Nat.lt_of_lt_of_le h1 h2)
set_option maxHeartbeats 2000000 in
theorem iThree (a : Option Addr) (len cap : Nat) (xs : List Int) (m : Nat) (w : World) (hR : InI w a len cap xs) (hx : digs xs) (hl : len ≤ m + 3) (hb : len ≤ 65536) (hm : m ≤ 65536) :
    Calls Tryd.prog 97 #[.slice a len cap, .int .i64 (m : Int)] w fun e w' => e = .returned (.int .i64 ((val xs / 65536 ^ m : Nat) : Int)) ∧ w' = w := by
  have hp := hR.1
  have hend : Hid (∀ j, (m ≤ j ∨ j = len) → j ≤ len → (j : Int) - 1 < (m : Int) → val (xs.drop j) = val xs / 65536 ^ m) := by
    intro j h1 h2 h3
    rw [← val_drop_div hx]
    by_cases e : j = m
    · rw [e]
    · have : j = len := by omega
      rw [List.drop_of_length_le (by omega), List.drop_of_length_le (by omega)]
  generalize val xs / 65536 ^ m = V at *
  have hbd := hd (fun j h => drop_bd (xs := xs) (m := m) (j := j) hx (by omega) h)
  have hst := hd (fun j h => val_drop (xs := xs) (j := j) h)
  have hcase : len < m + 3 ∨ len = m + 3 := by omega
  have hM : (m : Int) ≤ 65536 := by omega
  have hM0 : (0 : Int) ≤ (m : Int) := by omega
  have hL : (len : Int) ≤ 65536 := by omega
  have hL0 : (0 : Int) ≤ (len : Int) := by omega
  go_enter Tryd.func97, Tryd.ntmps97
  rcases hcase with hc | hc
  · have hc' : (len : Int) < (m : Int) + 3 := by omega
    go_wp2
    go_loopw [5, 6] (fun n i wr => ∃ (j : Nat), j ≤ len ∧ (m ≤ j ∨ j = len) ∧ n = .int .i64 ((val (xs.drop j) : Nat) : Int) ∧ i = .int .i64 ((j : Int) - 1) ∧ wr = w) (fun _ i _ => (intOf i + 1).toNat)
    case atStart =>
      refine ⟨len, Nat.le_refl _, .inr rfl, by rw [List.drop_of_length_le (by omega)]; rfl, ?_, rfl⟩
      first | rfl | (congr 1; omega) | (rw [hc']; rfl)
    case round =>
      obtain ⟨j, hj, hj2, rfl, rfl, hw⟩ := hrel
      obtain rfl : w = wr := hw.symm
      clear hw
      by_cases hgo : m < j
      · obtain ⟨k, rfl⟩ : ∃ k, j = k + 1 := ⟨j - 1, by omega⟩
        obtain ⟨b, off, x, rfl, hbl, hx2, -, c0⟩ := hR.at (k := k) (by omega)
        have dx := digs_getD hx k
        rw [hx2] at dx
        have h1 := hbd.out (k + 1) hgo
        have h2 := hst.out k (by omega)
        rw [hx2] at h2
        have hor := i64_or16 (r := ((val (xs.drop (k + 1)) : Nat) : Int)) (x := x) (by omega) (by omega) dx
        unfold dig at dx
        have h3 : Hid (((val (xs.drop k) : Nat) : Int) = ((val (xs.drop (k + 1)) : Nat) : Int) * 65536 + x) := by show _ = _; omega
        have hr0 : (0 : Int) ≤ ((val (xs.drop (k + 1)) : Nat) : Int) := by omega
        have hr1 : ((val (xs.drop (k + 1)) : Nat) : Int) < 4294967296 := by omega
        have ekI : ((k + 1 : Nat) : Int) - 1 = (k : Int) := by omega
        have hkm : (m : Int) ≤ (k : Int) := by omega
        have hkl : (k : Int) < (len : Int) := by omega
        have hk1 : Hid (m ≤ k ∧ k < len) := by show _ ∧ _; omega
        rw [ekI]
        generalize ((val (xs.drop (k + 1)) : Nat) : Int) = r at *
        clear h1 h2 hj hj2 hgo ekI hl hb hm hp
        go_wp2
        go_roundw
        case rel => exact ⟨k, Nat.le_of_lt hk1.out.2, .inl hk1.out.1, by rw [h3.out], rfl, trivial⟩
        case measure => (simp [intOf] <;> omega)
      · have hv := hend.out j hj2 hj (by omega)
        have hjm : ((j : Int) - 1) < (m : Int) := by omega
        rw [hv]
        generalize hJ : (j : Int) - 1 = J at *
        have hJ0 : -1 ≤ J := by omega
        clear hJ hj hj2 hgo hv hbd hst hend
        go_wp2
        go_ret
        exact ⟨rfl, rfl⟩
  · have hc' : (len : Int) = (m : Int) + 3 := by omega
    go_wp2
    go_loopw [5, 6] (fun n i wr => ∃ (j : Nat), j ≤ len ∧ (m ≤ j ∨ j = len) ∧ n = .int .i64 ((val (xs.drop j) : Nat) : Int) ∧ i = .int .i64 ((j : Int) - 1) ∧ wr = w) (fun _ i _ => (intOf i + 1).toNat)
    case atStart =>
      refine ⟨len, Nat.le_refl _, .inr rfl, by rw [List.drop_of_length_le (by omega)]; rfl, ?_, rfl⟩
      first | rfl | (congr 1; omega) | (rw [hc']; rfl)
    case round =>
      obtain ⟨j, hj, hj2, rfl, rfl, hw⟩ := hrel
      obtain rfl : w = wr := hw.symm
      clear hw
      by_cases hgo : m < j
      · obtain ⟨k, rfl⟩ : ∃ k, j = k + 1 := ⟨j - 1, by omega⟩
        obtain ⟨b, off, x, rfl, hbl, hx2, -, c0⟩ := hR.at (k := k) (by omega)
        have dx := digs_getD hx k
        rw [hx2] at dx
        have h1 := hbd.out (k + 1) hgo
        have h2 := hst.out k (by omega)
        rw [hx2] at h2
        have hor := i64_or16 (r := ((val (xs.drop (k + 1)) : Nat) : Int)) (x := x) (by omega) (by omega) dx
        unfold dig at dx
        have h3 : Hid (((val (xs.drop k) : Nat) : Int) = ((val (xs.drop (k + 1)) : Nat) : Int) * 65536 + x) := by show _ = _; omega
        have hr0 : (0 : Int) ≤ ((val (xs.drop (k + 1)) : Nat) : Int) := by omega
        have hr1 : ((val (xs.drop (k + 1)) : Nat) : Int) < 4294967296 := by omega
        have ekI : ((k + 1 : Nat) : Int) - 1 = (k : Int) := by omega
        have hkm : (m : Int) ≤ (k : Int) := by omega
        have hkl : (k : Int) < (len : Int) := by omega
        have hk1 : Hid (m ≤ k ∧ k < len) := by show _ ∧ _; omega
        rw [ekI]
        generalize ((val (xs.drop (k + 1)) : Nat) : Int) = r at *
        clear h1 h2 hj hj2 hgo ekI hl hb hm hp
        go_wp2
        go_roundw
        case rel => exact ⟨k, Nat.le_of_lt hk1.out.2, .inl hk1.out.1, by rw [h3.out], rfl, trivial⟩
        case measure => (simp [intOf] <;> omega)
      · have hv := hend.out j hj2 hj (by omega)
        have hjm : ((j : Int) - 1) < (m : Int) := by omega
        rw [hv]
        generalize hJ : (j : Int) - 1 = J at *
        have hJ0 : -1 ≤ J := by omega
        clear hJ hj hj2 hgo hv hbd hst hend
        go_wp2
        go_ret
        exact ⟨rfl, rfl⟩
end Go.Proofs.YtpamnpdigoikoaaDoor
