/- What partBelow finds: its size and power, as numbers. -/
import Derived.Test.YtgoffjpfddmhhaaGreatDoorPK27
import Derived.Test.YtgoffjpfddmhhaaGreatDoorPK28
import Derived.Test.YtgoffjpfddmhhaaGreatDoorPK01
import Derived.Defers
import Derived.Deep.DeepCutAuto
namespace Go.Proofs.YtgoffjpfddmhhaaGreatDoor
open Go.RowKit
set_option linter.unusedVariables false
set_option maxRecDepth 100000

theorem div_zero_lt {q k : Nat} (h : q / 2 ^ k = 0) : q < 2 ^ k := by
  rcases Nat.div_eq_zero_iff.1 h with h | h
  · exact absurd h (Nat.ne_of_gt (Nat.two_pow_pos k))
  · exact h
theorem pbS_lt {A B room : Nat} {least : Int} (lA : (natL A).length ≤ 256) (lB : (natL B).length ≤ 256) (hB : B ≠ 0) : pbS A B room least < 2 ^ room := by
  have q := pbQ_lt (room := room) (least := least) lA lB hB
  unfold pbS
  split
  · exact div_zero_lt ‹_›
  · rw [Nat.pow_succ] at q; omega
theorem pbW_ge (A B room : Nat) (least : Int) : least ≤ pbW A B room least := by
  unfold pbW pbP; split <;> omega
theorem pbW_le {A B room : Nat} {least : Int} (lA : (natL A).length ≤ 256) (lB : (natL B).length ≤ 256) (hl : least ≤ 4000) : pbW A B room least ≤ 8000 := by
  have := bl_bd lA; have := bl_bd lB
  unfold pbW pbP; split <;> omega
theorem quo_ge {A B r : Nat} {p : Int} (lA : (natL A).length ≤ 256) (lB : (natL B).length ≤ 256) (hA : A ≠ 0) (hB : B ≠ 0) (hp : p = bl A - bl B - (r + 1 : Nat)) : 2 ^ r ≤ uN A p / uD B p := by
  obtain ⟨a1, a2⟩ := bl_low hA lA
  have b1 := bl_high lB
  have b0 := bl_bd lB
  have key : ∀ i j : Nat, j + ((bl B).toNat + r) ≤ i + (bl A - 1).toNat → 2 ^ r * (2 ^ j * B) ≤ 2 ^ i * A := by
    intro i j h
    have h1 : 2 ^ i * 2 ^ (bl A - 1).toNat ≤ 2 ^ i * A := Nat.mul_le_mul_left _ a1
    have h2 : 2 ^ j * B ≤ 2 ^ j * 2 ^ (bl B).toNat := Nat.mul_le_mul_left _ (Nat.le_of_lt b1)
    have h3 : 2 ^ r * (2 ^ j * B) ≤ 2 ^ r * (2 ^ j * 2 ^ (bl B).toNat) := Nat.mul_le_mul_left _ h2
    rw [← Nat.pow_add] at h1
    rw [← Nat.pow_add, ← Nat.pow_add] at h3
    exact Nat.le_trans h3 (Nat.le_trans (two_bd (by omega)) h1)
  have hpos : 0 < uD B p := by
    unfold uD; split
    · omega
    · exact Nat.mul_pos (Nat.two_pow_pos _) (by omega)
  rw [Nat.le_div_iff_mul_le hpos]
  unfold uN uD
  by_cases c : p < 0
  · rw [if_pos c, if_pos c]
    have := key (-p).toNat 0 (by omega)
    rw [Nat.pow_zero, Nat.one_mul] at this
    exact this
  · rw [if_neg c, if_neg c]
    have := key 0 p.toNat (by omega)
    rw [Nat.pow_zero, Nat.one_mul] at this
    exact this
theorem pb_norm {A B r : Nat} {least : Int} (lA : (natL A).length ≤ 256) (lB : (natL B).length ≤ 256) (hB : B ≠ 0) (hA : A ≠ 0) : pbW A B (r + 1) least = least ∨ 2 ^ r ≤ pbS A B (r + 1) least := by
  unfold pbW pbS
  split
  · by_cases c : pbP A B (r + 1) least = least
    · exact .inl c
    · right
      have e : pbP A B (r + 1) least = bl A - bl B - (r + 1 : Nat) := by unfold pbP at *; omega
      have h := quo_ge (r := r) lA lB hA hB rfl
      rw [← e] at h
      exact h
  · right
    rename_i h
    have : 2 ^ (r + 1) ≤ pbQ A B (r + 1) least := by
      apply Nat.le_of_not_lt
      intro g
      exact h (Nat.div_eq_of_lt g)
    rw [Nat.pow_succ] at this
    omega
theorem pb_zero {B room : Nat} {least : Int} : pbS 0 B room least = 0 ∧ pbW 0 B room least = pbP 0 B room least ∧ pbX 0 B room least = true := by
  have e : pbQ 0 B room least = 0 := by unfold pbQ uN; split <;> simp
  have e2 : pbE 0 B room least = true := by unfold pbE uN; split <;> simp
  unfold pbS pbW pbX
  rw [e, Nat.zero_div, if_pos rfl, if_pos rfl, if_pos rfl]
  exact ⟨rfl, rfl, e2⟩
theorem bl_zero : bl 0 = 0 := by rw [bl, natL_zero]; rfl
theorem pbN32 {A B : Nat} (lA : (natL A).length ≤ 256) (lB : (natL B).length ≤ 256) (hB : B ≠ 0) : (pbS A B 24 (-149) = 0 ∧ mkF32 (pbW A B 24 (-149)) = true) ∨ pbW A B 24 (-149) = -149 ∨ 8388608 ≤ pbS A B 24 (-149) := by
  by_cases hA : A = 0
  · subst hA
    obtain ⟨h1, h2, -⟩ := @pb_zero B 24 (-149)
    refine .inl ⟨h1, ?_⟩
    rw [h2]
    have := bl_bd lB
    have z := bl_zero
    unfold mkF32 pbP
    rw [z]
    exact decide_eq_true (by omega)
  · rcases pb_norm (r := 23) (least := -149) lA lB hB hA with h | h
    · exact .inr (.inl h)
    · exact .inr (.inr h)
theorem pbN64 {A B : Nat} (lA : (natL A).length ≤ 256) (lB : (natL B).length ≤ 256) (hB : B ≠ 0) : (pbS A B 53 (-1074) = 0 ∧ mkF64 (pbW A B 53 (-1074)) = true) ∨ pbW A B 53 (-1074) = -1074 ∨ 4503599627370496 ≤ pbS A B 53 (-1074) := by
  by_cases hA : A = 0
  · subst hA
    obtain ⟨h1, h2, -⟩ := @pb_zero B 53 (-1074)
    refine .inl ⟨h1, ?_⟩
    rw [h2]
    have := bl_bd lB
    have z := bl_zero
    unfold mkF64 pbP
    rw [z]
    exact decide_eq_true (by omega)
  · rcases pb_norm (r := 52) (least := -1074) lA lB hB hA with h | h
    · exact .inr (.inl h)
    · exact .inr (.inr h)
end Go.Proofs.YtgoffjpfddmhhaaGreatDoor

/- What is rounded to floats: one power more halves what is found; how many bits it has. -/
namespace Go.Proofs.YtgoffjpfddmhhaaGreatDoor
open Go.RowKit
set_option linter.unusedVariables false
set_option maxRecDepth 100000

theorem half_num (N D : Nat) (hD : 0 < D) : N / D = 2 * N / D / 2 ∧ (N % D = 0 ↔ 2 * N % D = 0 ∧ 2 * N / D % 2 = 0) := by
  refine ⟨?_, ?_, ?_⟩
  · rw [Nat.div_div_eq_div_mul, Nat.mul_comm D 2, Nat.mul_div_mul_left _ _ (by omega)]
  · intro h
    obtain ⟨k, rfl⟩ := Nat.dvd_of_mod_eq_zero h
    rw [show 2 * (D * k) = D * (2 * k) by rw [← Nat.mul_assoc, Nat.mul_comm 2 D, Nat.mul_assoc], Nat.mul_mod_right, Nat.mul_div_cancel_left _ hD]
    exact ⟨rfl, by omega⟩
  · rintro ⟨h1, h2⟩
    obtain ⟨q, e⟩ := Nat.dvd_of_mod_eq_zero h1
    rw [e, Nat.mul_div_cancel_left _ hD] at h2
    obtain ⟨k, rfl⟩ := Nat.dvd_of_mod_eq_zero h2
    have e2 : N = D * k := by
      have : 2 * N = 2 * (D * k) := by rw [e, ← Nat.mul_assoc, Nat.mul_comm D 2, Nat.mul_assoc]
      omega
    rw [e2, Nat.mul_mod_right]
theorem half_den (N D : Nat) (hD : 0 < D) : N / (2 * D) = N / D / 2 ∧ (N % (2 * D) = 0 ↔ N % D = 0 ∧ N / D % 2 = 0) := by
  refine ⟨?_, ?_, ?_⟩
  · rw [Nat.div_div_eq_div_mul, Nat.mul_comm D 2]
  · intro h
    obtain ⟨k, rfl⟩ := Nat.dvd_of_mod_eq_zero h
    rw [show 2 * D * k = D * (2 * k) by rw [Nat.mul_comm 2 D, Nat.mul_assoc], Nat.mul_mod_right, Nat.mul_div_cancel_left _ hD]
    exact ⟨rfl, by omega⟩
  · rintro ⟨h1, h2⟩
    obtain ⟨q, rfl⟩ := Nat.dvd_of_mod_eq_zero h1
    rw [Nat.mul_div_cancel_left _ hD] at h2
    obtain ⟨k, rfl⟩ := Nat.dvd_of_mod_eq_zero h2
    rw [show D * (2 * k) = 2 * D * k by rw [← Nat.mul_assoc, Nat.mul_comm D 2], Nat.mul_mod_right]
theorem half_u (A B : Nat) (p : Int) (hB : B ≠ 0) : uN A (p + 1) / uD B (p + 1) = uN A p / uD B p / 2 ∧ (uN A (p + 1) % uD B (p + 1) = 0 ↔ uN A p % uD B p = 0 ∧ uN A p / uD B p % 2 = 0) := by
  by_cases c : p < 0
  · have e1 : uN A p = 2 * uN A (p + 1) := by
      unfold uN
      rw [if_pos c]
      by_cases d : p + 1 < 0
      · rw [if_pos d, ← Nat.mul_assoc, Nat.mul_comm 2, ← Nat.pow_succ, show (-(p + 1)).toNat.succ = (-p).toNat by omega]
      · rw [if_neg d, show (-p).toNat = 1 by omega]
    have e2 : uD B (p + 1) = uD B p := by
      unfold uD
      rw [if_pos c]
      by_cases d : p + 1 < 0
      · rw [if_pos d]
      · rw [if_neg d, show (p + 1).toNat = 0 by omega, Nat.pow_zero, Nat.one_mul]
    have hD : 0 < uD B p := by unfold uD; rw [if_pos c]; omega
    rw [e1, e2]
    exact half_num _ _ hD
  · have e1 : uN A (p + 1) = uN A p := by unfold uN; rw [if_neg c, if_neg (by omega)]
    have e2 : uD B (p + 1) = 2 * uD B p := by
      unfold uD
      rw [if_neg c, if_neg (by omega), ← Nat.mul_assoc, Nat.mul_comm 2, ← Nat.pow_succ, show p.toNat.succ = (p + 1).toNat by omega]
    have hD : 0 < uD B p := by unfold uD; rw [if_neg c]; exact Nat.mul_pos (Nat.two_pow_pos _) (by omega)
    rw [e1, e2]
    exact half_den _ _ hD
theorem bl_gt {q r : Nat} (l : (natL q).length ≤ 256) : (r : Int) < bl q ↔ 2 ^ r ≤ q := by
  constructor
  · intro h
    have h0 : q ≠ 0 := fun e => by subst e; rw [bl_zero] at h; omega
    obtain ⟨h1, h2⟩ := bl_low h0 l
    exact Nat.le_trans (two_bd (by omega)) h1
  · intro h
    have h1 := bl_high l
    have h2 := bl_bd l
    apply Int.not_le.1
    intro g
    have : 2 ^ (bl q).toNat ≤ 2 ^ r := two_bd (by omega)
    omega
theorem small_len {q : Nat} (h : q < 18446744073709551616) : (natL q).length ≤ 256 := by
  have e : (2 : Nat) ^ (16 * 4) = 18446744073709551616 := by decide
  rw [← e] at h
  exact Nat.le_trans (natL_len2 h) (by omega)
/-- what is found at first has room's bits, or one more: then it is halved -/
theorem pb_case (A B room : Nat) (least : Int) (hB : B ≠ 0) :
    (pbQ A B room least < 2 ^ room ∧ pbS A B room least = pbQ A B room least ∧ pbW A B room least = pbP A B room least ∧ pbX A B room least = pbE A B room least) ∨
    (2 ^ room ≤ pbQ A B room least ∧ pbS A B room least = uN A (pbP A B room least + 1) / uD B (pbP A B room least + 1) ∧ pbW A B room least = pbP A B room least + 1 ∧ pbX A B room least = decide (uN A (pbP A B room least + 1) % uD B (pbP A B room least + 1) = 0)) := by
  by_cases c : pbQ A B room least / 2 ^ room = 0
  · left
    refine ⟨div_zero_lt c, ?_, ?_, ?_⟩
    · unfold pbS; rw [if_pos c]
    · unfold pbW; rw [if_pos c]
    · unfold pbX; rw [if_pos c]
  · right
    obtain ⟨h1, h2⟩ := half_u A B (pbP A B room least) hB
    refine ⟨?_, ?_, ?_, ?_⟩
    · apply Nat.le_of_not_lt
      intro g
      exact c (Nat.div_eq_of_lt g)
    · unfold pbS; rw [if_neg c, h1]; rfl
    · unfold pbW; rw [if_neg c]
    · unfold pbX; rw [if_neg c, decide_eq_decide.2 h2, Bool.decide_and]; rfl
end Go.Proofs.YtgoffjpfddmhhaaGreatDoor

/- Three cells of a block of our own. -/
namespace Go.Proofs.YtgoffjpfddmhhaaGreatDoor
open Go.RowKit
set_option linter.unusedVariables false
set_option maxRecDepth 100000

/-- three cells of a block of our own, that may be written -/
structure S3 (w : World) (b : Nat) (x y z : Value) : Prop where
  cells : w.cell? ⟨b, 0, none⟩ = some x ∧ w.cell? ⟨b, 1, none⟩ = some y ∧ w.cell? ⟨b, 2, none⟩ = some z
  froz : w.frozen? ⟨b, 0, none⟩ = false ∧ w.frozen? ⟨b, 1, none⟩ = false ∧ w.frozen? ⟨b, 2, none⟩ = false
  lt : b < w.heap.size
theorem S3.later {w w1 : World} {b : Nat} {x y z : Value} (h : S3 w b x y z) (hb : Below w.heap.size w w1) : S3 w1 b x y z := by
  obtain ⟨⟨h1, h2, h3⟩, ⟨g1, g2, g3⟩, h5⟩ := h
  exact ⟨⟨(hb.cell (p := ⟨b, 0, none⟩) h5).trans h1, (hb.cell (p := ⟨b, 1, none⟩) h5).trans h2, (hb.cell (p := ⟨b, 2, none⟩) h5).trans h3⟩, ⟨(hb.frozen (p := ⟨b, 0, none⟩) h5).trans g1, (hb.frozen (p := ⟨b, 1, none⟩) h5).trans g2, (hb.frozen (p := ⟨b, 2, none⟩) h5).trans g3⟩, Nat.lt_of_lt_of_le h5 hb.size⟩
theorem S3.alloc {w : World} {b : Nat} {x y z : Value} (h : S3 w b x y z) (o : Obj) : S3 (w.alloc o) b x y z := h.later ((Below.refl _ _).alloc (Nat.le_refl _) o)
theorem S3.drew {w : World} {b : Nat} {x y z : Value} (h : S3 w b x y z) : S3 w.drew b x y z := ⟨h.cells, h.froz, h.lt⟩
theorem S3.made (w : World) (b : Nat) (hb : b = w.heap.size) (x y z : Value) (t : TypeId) : S3 (w.alloc (.cells #[x, y, z] t)) b x y z := by subst hb; exact ⟨⟨by simp, by simp, by simp⟩, ⟨by simp, by simp, by simp⟩, by simp⟩
theorem S3.far {w : World} {b c i : Nat} {x y z v : Value} (h : S3 w b x y z) (hn : b ≠ c) : S3 (w.setCell ⟨c, i, none⟩ v) b x y z := by
  obtain ⟨⟨a0, a1, a2⟩, ⟨f0, f1, f2⟩, h1⟩ := h
  have o : ∀ (j : Nat), (w.setCell ⟨c, i, none⟩ v).cell? ⟨b, j, none⟩ = w.cell? ⟨b, j, none⟩ := fun j => World.cell?_setCell_other _ _ _ _ (by intro h; injection h with h2 _; omega)
  exact ⟨⟨(o 0).trans a0, (o 1).trans a1, (o 2).trans a2⟩, ⟨by simpa using f0, by simpa using f1, by simpa using f2⟩, by simpa [World.setCell] using h1⟩
theorem S3.others {w : World} {b c : Nat} {x y z : Value} (h : S3 w b x y z) (hn : b ≠ c) (u0 u1 u2 : Value) : S3 (((w.setCell ⟨c, 0, none⟩ u0).setCell ⟨c, 1, none⟩ u1).setCell ⟨c, 2, none⟩ u2) b x y z := ((h.far hn).far hn).far hn
theorem set3o (W : World) (b i j : Nat) (v : Value) (hn : i ≠ j) : (W.setCell ⟨b, j, none⟩ v).cell? ⟨b, i, none⟩ = W.cell? ⟨b, i, none⟩ := World.cell?_setCell_other _ _ _ _ (by intro h; injection h with _ h2; omega)
theorem S3.stored {w : World} {b : Nat} {x y z : Value} (h : S3 w b x y z) (u0 u1 u2 : Value) : S3 (((w.setCell ⟨b, 0, none⟩ u0).setCell ⟨b, 1, none⟩ u1).setCell ⟨b, 2, none⟩ u2) b u0 u1 u2 := by
  obtain ⟨⟨a0, a1, a2⟩, ⟨f0, f1, f2⟩, h1⟩ := h
  refine ⟨⟨?_, ?_, ?_⟩, ⟨by simpa using f0, by simpa using f1, by simpa using f2⟩, by simpa [World.setCell] using h1⟩
  · rw [set3o _ _ _ _ _ (by omega), set3o _ _ _ _ _ (by omega)]; exact World.cell?_setCell_same _ _ _ a0
  · rw [set3o _ _ _ _ _ (by omega)]; exact World.cell?_setCell_same _ _ _ ((set3o _ _ _ _ _ (by omega)).trans a1)
  · exact World.cell?_setCell_same _ _ _ ((set3o _ _ _ _ _ (by omega)).trans ((set3o _ _ _ _ _ (by omega)).trans a2))
end Go.Proofs.YtgoffjpfddmhhaaGreatDoor

/- What is rounded to floats, by the program: below, with its deferred count. Conditions: the library's table lies as its text lays it; digits, 256 at most. Of what was there only the count is written. -/
namespace Go.Proofs.YtgoffjpfddmhhaaGreatDoor
open Go.RowKit
set_option linter.unusedVariables false
set_option maxRecDepth 100000

/-- one cell of a block of our own, that may be written -/
structure S1c (w : World) (b : Nat) (x : Value) : Prop where
  cell : w.cell? ⟨b, 0, none⟩ = some x
  froz : w.frozen? ⟨b, 0, none⟩ = false
  lt : b < w.heap.size
theorem S1c.later {w w1 : World} {b : Nat} {x : Value} (h : S1c w b x) (hb : Below w.heap.size w w1) : S1c w1 b x :=
  ⟨cell_later hb h.cell, (hb.frozen (p := ⟨b, 0, none⟩) h.lt).trans h.froz, Nat.lt_of_lt_of_le h.lt hb.size⟩
theorem S1c.alloc {w : World} {b : Nat} {x : Value} (h : S1c w b x) (o : Obj) : S1c (w.alloc o) b x := h.later ((Below.refl _ _).alloc (Nat.le_refl _) o)
theorem S1c.drew {w : World} {b : Nat} {x : Value} (h : S1c w b x) : S1c w.drew b x := ⟨h.cell, h.froz, h.lt⟩
theorem S1c.made (w : World) (b : Nat) (hb : b = w.heap.size) (x : Value) (t : TypeId) : S1c (w.alloc (.cells #[x] t)) b x := by subst hb; exact ⟨by simp, by simp, by simp⟩
theorem S1c.far {w : World} {b c i : Nat} {x v : Value} (h : S1c w b x) (hn : b ≠ c) : S1c (w.setCell ⟨c, i, none⟩ v) b x :=
  ⟨(World.cell?_setCell_other _ _ _ _ (by intro h; injection h with h2 _; omega)).trans h.cell, by simpa using h.froz, by simpa [World.setCell] using h.lt⟩
theorem S1c.stored {w : World} {b : Nat} {x : Value} (h : S1c w b x) (v : Value) : S1c (w.setCell ⟨b, 0, none⟩ v) b v :=
  ⟨World.cell?_setCell_same _ _ _ h.cell, by simpa using h.froz, by simpa [World.setCell] using h.lt⟩
set_option maxHeartbeats 1000000 in
theorem iBelowD32 (pe pf pv vb : Nat) (ex fi : Bool) (c : Int) (c0 : 0 ≤ c) (c1 : c ≤ 1000) (u : FrameMode) (w : World) (he : w.cell? ⟨pe, 0, none⟩ = some (.bool ex)) (hf : w.cell? ⟨pf, 0, none⟩ = some (.bool fi)) (hv : w.cell? ⟨pv, 0, none⟩ = some (.pointer (some ⟨vb, 0, none⟩))) (hc : w.cell? ⟨vb, 0, none⟩ = some (.int .i64 c)) (hz : w.frozen? ⟨vb, 0, none⟩ = false) :
    CallsD Tryz.prog 166 #[.pointer (some ⟨pe, 0, none⟩), .pointer (some ⟨pf, 0, none⟩), .pointer (some ⟨pv, 0, none⟩)] u w fun e u' w' => u' = u ∧ (e = .returned (.tuple #[]) ∧ w' = if ex && fi then w else w.setCell ⟨vb, 0, none⟩ (.int .i64 (c + 1))) := by
  cases ex
  · go_enter_d Tryz.func166, Tryz.ntmps166
    go_wp2
    go_end0
    exact ⟨rfl, rfl⟩
  cases fi
  · go_enter_d Tryz.func166, Tryz.ntmps166
    go_wp2
    go_end0
    exact ⟨rfl, rfl⟩
  · go_enter_d Tryz.func166, Tryz.ntmps166
    go_wp2
    go_end0
    exact ⟨rfl, rfl⟩
set_option maxHeartbeats 1000000 in
theorem iBelowD64 (pe pf pv vb : Nat) (ex fi : Bool) (c : Int) (c0 : 0 ≤ c) (c1 : c ≤ 1000) (u : FrameMode) (w : World) (he : w.cell? ⟨pe, 0, none⟩ = some (.bool ex)) (hf : w.cell? ⟨pf, 0, none⟩ = some (.bool fi)) (hv : w.cell? ⟨pv, 0, none⟩ = some (.pointer (some ⟨vb, 0, none⟩))) (hc : w.cell? ⟨vb, 0, none⟩ = some (.int .i64 c)) (hz : w.frozen? ⟨vb, 0, none⟩ = false) :
    CallsD Tryz.prog 182 #[.pointer (some ⟨pe, 0, none⟩), .pointer (some ⟨pf, 0, none⟩), .pointer (some ⟨pv, 0, none⟩)] u w fun e u' w' => u' = u ∧ (e = .returned (.tuple #[]) ∧ w' = if ex && fi then w else w.setCell ⟨vb, 0, none⟩ (.int .i64 (c + 1))) := by
  cases ex
  · go_enter_d Tryz.func182, Tryz.ntmps182
    go_wp2
    go_end0
    exact ⟨rfl, rfl⟩
  cases fi
  · go_enter_d Tryz.func182, Tryz.ntmps182
    go_wp2
    go_end0
    exact ⟨rfl, rfl⟩
  · go_enter_d Tryz.func182, Tryz.ntmps182
    go_wp2
    go_end0
    exact ⟨rfl, rfl⟩
end Go.Proofs.YtgoffjpfddmhhaaGreatDoor

/- What is rounded to floats, by the program: below. Conditions: the library's table lies as its text lays it; digits, 256 at most. Of what was there only the count is written. -/
namespace Go.Proofs.YtgoffjpfddmhhaaGreatDoor
open Go.RowKit
set_option linter.unusedVariables false
set_option maxRecDepth 100000

/-- all that was there, but one block, is as it was -/
structure ButV (vb : Nat) (w w' : World) : Prop where
  os : w'.os = w.os
  tape : w'.tape = w.tape
  output : w'.output = w.output
  size : w.heap.size ≤ w'.heap.size
  block : ∀ k, k < w.heap.size → k ≠ vb → w'.heap[k]? = w.heap[k]?
theorem ButV.of {vb : Nat} {w w' : World} (h : Below w.heap.size w w') : ButV vb w w' := ⟨h.os, h.tape, h.output, h.size, fun k hk _ => h.block k hk⟩
theorem ButV.set {vb : Nat} {w w' : World} (h : ButV vb w w') (v : Value) : ButV vb w (w'.setCell ⟨vb, 0, none⟩ v) :=
  ⟨h.os, h.tape, h.output, by simpa [World.setCell] using h.size, fun k hk hn => (Below.heap_setCell _ _ _ _ hn).trans (h.block k hk hn)⟩
theorem ButV.below {vb m : Nat} {w w' : World} (h : ButV vb w w') (hm : m ≤ vb) (hv : vb < w.heap.size) : Below m w w' := ⟨h.os, h.tape, h.output, h.size, fun k hk => h.block k (by omega) (by omega)⟩
theorem ButV.cell {vb : Nat} {w w' : World} (h : ButV vb w w') {b i : Nat} (hb : b < w.heap.size) (hn : b ≠ vb) : w'.cell? ⟨b, i, none⟩ = w.cell? ⟨b, i, none⟩ := World.cell?_of_block (w := w) (h.block b hb hn)
theorem ButV.frozen {vb : Nat} {w w' : World} (h : ButV vb w w') {b i : Nat} (hb : b < w.heap.size) (hn : b ≠ vb) : w'.frozen? ⟨b, i, none⟩ = w.frozen? ⟨b, i, none⟩ := World.frozen?_of_block (w := w) (h.block b hb hn)
theorem S3.set2 {w : World} {b : Nat} {x y z : Value} (h : S3 w b x y z) (v : Value) : S3 (w.setCell ⟨b, 2, none⟩ v) b x y v := by
  obtain ⟨⟨a0, a1, a2⟩, ⟨f0, f1, f2⟩, h1⟩ := h
  refine ⟨⟨?_, ?_, ?_⟩, ⟨by simpa using f0, by simpa using f1, by simpa using f2⟩, by simpa [World.setCell] using h1⟩
  · rw [set3o _ _ _ _ _ (by omega)]; exact a0
  · rw [set3o _ _ _ _ _ (by omega)]; exact a1
  · exact World.cell?_setCell_same _ _ _ a2
/-- four cells of a block -/
structure S4c (w : World) (b : Nat) (x0 x1 x2 x3 : Value) : Prop where
  c0 : w.cell? ⟨b, 0, none⟩ = some x0
  c1 : w.cell? ⟨b, 1, none⟩ = some x1
  c2 : w.cell? ⟨b, 2, none⟩ = some x2
  c3 : w.cell? ⟨b, 3, none⟩ = some x3
  lt : b < w.heap.size
theorem S4c.later {w w1 : World} {b : Nat} {x0 x1 x2 x3 : Value} (h : S4c w b x0 x1 x2 x3) (hb : Below w.heap.size w w1) : S4c w1 b x0 x1 x2 x3 :=
  ⟨cell_later hb h.c0, cell_later hb h.c1, cell_later hb h.c2, cell_later hb h.c3, Nat.lt_of_lt_of_le h.lt hb.size⟩
theorem S4c.alloc {w : World} {b : Nat} {x0 x1 x2 x3 : Value} (h : S4c w b x0 x1 x2 x3) (o : Obj) : S4c (w.alloc o) b x0 x1 x2 x3 := h.later ((Below.refl _ _).alloc (Nat.le_refl _) o)
theorem S4c.drew {w : World} {b : Nat} {x0 x1 x2 x3 : Value} (h : S4c w b x0 x1 x2 x3) : S4c w.drew b x0 x1 x2 x3 := ⟨h.c0, h.c1, h.c2, h.c3, h.lt⟩
theorem S4c.made (w : World) (b : Nat) (hb : b = w.heap.size) (x0 x1 x2 x3 : Value) (t : TypeId) : S4c (w.alloc (.cells #[x0, x1, x2, x3] t)) b x0 x1 x2 x3 := by subst hb; exact ⟨by simp, by simp, by simp, by simp, by simp⟩
theorem S4c.far {w : World} {b c i : Nat} {x0 x1 x2 x3 v : Value} (h : S4c w b x0 x1 x2 x3) (hn : b ≠ c) : S4c (w.setCell ⟨c, i, none⟩ v) b x0 x1 x2 x3 := by
  have o : ∀ (j : Nat), (w.setCell ⟨c, i, none⟩ v).cell? ⟨b, j, none⟩ = w.cell? ⟨b, j, none⟩ := fun j => World.cell?_setCell_other _ _ _ _ (by intro h; injection h with h2 _; omega)
  exact ⟨(o 0).trans h.c0, (o 1).trans h.c1, (o 2).trans h.c2, (o 3).trans h.c3, by simpa [World.setCell] using h.lt⟩
end Go.Proofs.YtgoffjpfddmhhaaGreatDoor
