/- A reader of a code in memory: what its method pick does: a number from 0 to n-1, the reader one place further, all other old memory as it was. -/
import Derived.Test.YtlfaiekcmflgnaaGreatDoorBA
import Derived.Deep.QuietTactic
import Derived.BigQuiet
import Derived.Deep.DeepCutAuto
import Derived.Deep.CutBlock
import Derived.Deep.Onto
namespace Go.Proofs.YtlfaiekcmflgnaaGreatDoor
open Go.RowKit


/-- all old blocks but one are as they were -/
structure But (rb : Nat) (w w' : World) : Prop where
  os : w'.os = w.os
  tape : w'.tape = w.tape
  output : w'.output = w.output
  size : w.heap.size ≤ w'.heap.size
  block : ∀ k, k < w.heap.size → k ≠ rb → w'.heap[k]? = w.heap[k]?

theorem But.refl (rb : Nat) (w : World) : But rb w w := ⟨rfl, rfl, rfl, Nat.le_refl _, fun _ _ _ => rfl⟩
theorem But.trans {rb : Nat} {a b c : World} (h : But rb a b) (k : But rb b c) : But rb a c :=
  ⟨k.os.trans h.os, k.tape.trans h.tape, k.output.trans h.output, Nat.le_trans h.size k.size, fun i hi hne => (k.block i (Nat.lt_of_lt_of_le hi h.size) hne).trans (h.block i hi hne)⟩
theorem But.of {rb : Nat} {a b : World} (h : Below a.heap.size a b) : But rb a b := ⟨h.os, h.tape, h.output, h.size, fun i hi _ => h.block i hi⟩
theorem But.drew {rb : Nat} {a b : World} (h : But rb a b) : But rb a b.drew := ⟨h.os, h.tape, h.output, h.size, h.block⟩
theorem But.drewN {rb : Nat} {a b : World} (h : But rb a b) (n : Nat) : But rb a (b.drewN n) := ⟨h.os, h.tape, h.output, h.size, h.block⟩
theorem But.alloc {rb : Nat} {a b : World} (h : But rb a b) (o : Obj) : But rb a (b.alloc o) := h.trans (But.of ((Below.refl _ _).alloc (Nat.le_refl _) o))
theorem But.setCell {rb : Nat} {a b : World} (h : But rb a b) (i : Nat) (v : Value) : But rb a (b.setCell ⟨rb, i, none⟩ v) :=
  h.trans ⟨rfl, rfl, rfl, by simp [World.setCell], fun k _ hne => Below.heap_setCell _ _ _ _ hne⟩
/-- behind the making of the one block all that was there before is as it was -/
theorem But.below {a b : World} {o : Obj} (h : But a.heap.size (a.alloc o) b) : Below a.heap.size a b :=
  ⟨h.os, h.tape, h.output, by have := h.size; simp at this; omega, fun k hk => (h.block k (by simp; omega) (by omega)).trans (Below.heap_alloc _ _ _ hk)⟩

/-- the code's bytes, in another block than the reader -/
def Bytes (w : World) (rb : Nat) (a : Option Addr) (len : Nat) : Prop :=
  len = 0 ∨ ∃ bb off : Nat, a = some ⟨bb, off, none⟩ ∧ bb < rb ∧ bb < w.heap.size ∧ ∀ i, i < len → ∃ z : Int, 0 ≤ z ∧ z ≤ 255 ∧ w.cell? ⟨bb, off + i, none⟩ = some (.int .u8 z)
/-- a reader at block rb, at place p -/
def Rd (w : World) (rb : Nat) (p : Int) : Prop :=
  ∃ (a : Option Addr) (len cap : Nat), rb < w.heap.size ∧ w.cell? ⟨rb, 0, none⟩ = some (.slice a len cap) ∧ w.cell? ⟨rb, 1, none⟩ = some (.int .i64 p) ∧ w.frozen? ⟨rb, 1, none⟩ = false ∧ len ≤ 2000 ∧ len ≤ cap ∧ Bytes w rb a len

theorem Bytes.but {w w' : World} {rb : Nat} {a : Option Addr} {len : Nat} (h : Bytes w rb a len) (b : But rb w w') : Bytes w' rb a len := by
  rcases h with h | ⟨bb, off, h1, h2, h3, h4⟩
  · exact .inl h
  · refine .inr ⟨bb, off, h1, h2, Nat.lt_of_lt_of_le h3 b.size, fun i hi => ?_⟩
    obtain ⟨z, z0, z1, hz⟩ := h4 i hi
    exact ⟨z, z0, z1, (World.cell?_of_block (w := w) (b.block bb h3 (Nat.ne_of_lt h2))).trans hz⟩
theorem Rd.old {w w' : World} {rb : Nat} {p : Int} (h : Rd w rb p) (b : Below w.heap.size w w') : Rd w' rb p := by
  obtain ⟨a, len, cap, h0, h1, h2, h3, h4, h5, h6⟩ := h
  exact ⟨a, len, cap, Nat.lt_of_lt_of_le h0 b.size, (b.cell (p := ⟨rb, 0, none⟩) h0).trans h1, (b.cell (p := ⟨rb, 1, none⟩) h0).trans h2, (b.frozen (p := ⟨rb, 1, none⟩) h0).trans h3, h4, h5, h6.but (But.of b)⟩
theorem Rd.drewN {w : World} {rb : Nat} {p : Int} (h : Rd w rb p) (n : Nat) : Rd (w.drewN n) rb p := h.old (below_drewN (Below.refl _ _) n)
theorem Rd.set {w : World} {rb : Nat} {p : Int} (h : Rd w rb p) (q : Int) : Rd (w.setCell ⟨rb, 1, none⟩ (.int .i64 q)) rb q := by
  obtain ⟨a, len, cap, h0, h1, h2, h3, h4, h5, h6⟩ := h
  refine ⟨a, len, cap, by simpa [World.setCell] using h0, ?_, World.cell?_setCell_same _ _ _ h2, by simpa using h3, h4, h5, h6.but ((But.refl _ _).setCell _ _)⟩
  rw [World.cell?_setCell_other _ _ _ _ (by intro h; injection h with _ h2; exact absurd h2 (by decide))]
  exact h1

theorem Rd.far {w : World} {rb : Nat} {p : Int} (h : Rd w rb p) (b i : Nat) (hb : rb < b) (v : Value) : Rd (w.setCell ⟨b, i, none⟩ v) rb p := by
  obtain ⟨a, len, cap, h0, h1, h2, h3, h4, h5, h6⟩ := h
  refine ⟨a, len, cap, by simpa [World.setCell] using h0, ?_, ?_, by simpa using h3, h4, h5, ?_⟩
  · rw [World.cell?_setCell_other _ _ _ _ (by intro h; injection h with h _; omega)]; exact h1
  · rw [World.cell?_setCell_other _ _ _ _ (by intro h; injection h with h _; omega)]; exact h2
  · rcases h6 with h6 | ⟨bb, off, q1, q2, q3, q4⟩
    · exact .inl h6
    · refine .inr ⟨bb, off, q1, q2, by simpa [World.setCell] using q3, fun j hj => ?_⟩
      obtain ⟨z, z0, z1, hz⟩ := q4 j hj
      refine ⟨z, z0, z1, ?_⟩
      rw [World.cell?_setCell_other _ _ _ _ (by intro h; injection h with h _; omega)]; exact hz
theorem But.far {rb : Nat} {a b : World} (h : But rb a b) {p : Addr} (hp : a.heap.size ≤ p.block) (v : Value) : But rb a (b.setCell p v) :=
  ⟨h.os, h.tape, h.output, by simpa [World.setCell] using h.size, fun k hk hne => (Below.heap_setCell _ _ _ _ (by omega)).trans (h.block k hk hne)⟩

theorem xor_pos (x y : Int) (h1 : 0 ≤ x) (h2 : x < 9223372036854775808) (h3 : 0 ≤ y) (h4 : y < 9223372036854775808) : 0 ≤ bits .xor .i64 x y := by
  obtain ⟨A, rfl⟩ := Int.eq_ofNat_of_zero_le h1
  obtain ⟨B, rfl⟩ := Int.eq_ofNat_of_zero_le h3
  have e : bits .xor .i64 (A : Int) (B : Int) = IntKind.i64.wrap (((BitVec.ofInt 64 (A : Int) ^^^ BitVec.ofInt 64 (B : Int)).toNat : Nat) : Int) := rfl
  have ha : (BitVec.ofInt 64 (A : Int)).toNat = A := by rw [BitVec.toNat_ofInt]; omega
  have hb : (BitVec.ofInt 64 (B : Int)).toNat = B := by rw [BitVec.toNat_ofInt]; omega
  rw [e, BitVec.toNat_xor, ha, hb]
  have l : A ^^^ B < 2 ^ 63 := Nat.xor_lt_two_pow (by omega) (by omega)
  generalize A ^^^ B = N at *
  have hx : (N : Int) % 2 ^ 64 = N := by omega
  simp only [IntKind.wrap, IntKind.bits, IntKind.signed, hx]
  rw [if_neg (by simp; omega)]
  omega

set_option maxHeartbeats 400000 in
theorem pick_none (rb cap : Nat) (a : Option Addr) (p n : Int) (w : World) (n1 : 1 ≤ n) (p0 : 0 ≤ p) (p1 : p ≤ 1000000)
    (r0 : w.cell? ⟨rb, 0, none⟩ = some (.slice a 0 cap)) (r1 : w.cell? ⟨rb, 1, none⟩ = some (.int .i64 p)) (rf : w.frozen? ⟨rb, 1, none⟩ = false) :
    Calls Tryz.prog 33 #[.pointer (some ⟨rb, 0, none⟩), .int .i64 n] w fun e w' => e = .returned (.int .i64 0) ∧ w' = w.setCell ⟨rb, 1, none⟩ (.int .i64 (p + 1)) := by
  have t1 : decide (n < 1) = false := by simp; omega
  go_enter Tryz.func33, Tryz.ntmps33
  go_wp2
  go_ret
  exact ⟨rfl, rfl⟩
set_option maxHeartbeats 400000 in
theorem pick_in (rb bb off len cap : Nat) (p n z : Int) (w : World) (n1 : 1 ≤ n) (p0 : 0 ≤ p) (p1 : p ≤ 1000000) (l0 : 0 < (len : Int)) (_lc : len ≤ cap) (hlt : p < (len : Int)) (z0 : 0 ≤ z) (z1 : z ≤ 255) (hne : bb ≠ rb)
    (r0 : w.cell? ⟨rb, 0, none⟩ = some (.slice (some ⟨bb, off, none⟩) len cap)) (r1 : w.cell? ⟨rb, 1, none⟩ = some (.int .i64 p)) (rf : w.frozen? ⟨rb, 1, none⟩ = false)
    (c0 : w.cell? ⟨bb, off + p.toNat, none⟩ = some (.int .u8 z)) :
    Calls Tryz.prog 33 #[.pointer (some ⟨rb, 0, none⟩), .int .i64 n] w fun e w' => e = .returned (.int .i64 (z % n)) ∧ w' = w.setCell ⟨rb, 1, none⟩ (.int .i64 (p + 1)) := by
  have t1 : decide (n < 1) = false := by simp; omega
  have t2 : ((len : Int) == 0) = false := by simp; omega
  go_enter Tryz.func33, Tryz.ntmps33
  go_wp2
  go_ret
  exact ⟨rfl, rfl⟩
set_option maxHeartbeats 400000 in
theorem pick_past (rb bb off len cap : Nat) (p n z1 z2 i1 i2 i3 : Int) (w : World) (n1 : 1 ≤ n) (p0 : 0 ≤ p) (p1 : p ≤ 1000000) (l0 : 0 < (len : Int)) (_lc : len ≤ cap) (hlt : (len : Int) ≤ p) (z10 : 0 ≤ z1) (z11 : z1 ≤ 255) (z20 : 0 ≤ z2) (z21 : z2 ≤ 255) (hne : bb ≠ rb)
    (r0 : w.cell? ⟨rb, 0, none⟩ = some (.slice (some ⟨bb, off, none⟩) len cap)) (r1 : w.cell? ⟨rb, 1, none⟩ = some (.int .i64 p)) (rf : w.frozen? ⟨rb, 1, none⟩ = false)
    (e1 : p % (len : Int) = i1) (e2 : (p * 7 + 3) % (len : Int) = i2) (e3 : p / (len : Int) = i3) (i10 : 0 ≤ i1) (i11 : i1 < (len : Int)) (i20 : 0 ≤ i2) (i21 : i2 < (len : Int)) (i30 : 0 ≤ i3) (i31 : i3 ≤ 1000000)
    (c1 : w.cell? ⟨bb, off + i1.toNat, none⟩ = some (.int .u8 z1)) (c2 : w.cell? ⟨bb, off + i2.toNat, none⟩ = some (.int .u8 z2)) :
    Calls Tryz.prog 33 #[.pointer (some ⟨rb, 0, none⟩), .int .i64 n] w fun e w' => (∃ x : Int, 0 ≤ x ∧ e = .returned (.int .i64 (x.tmod n))) ∧ ∃ k, w' = (w.setCell ⟨rb, 1, none⟩ (.int .i64 (p + 1))).drewN k := by
  have t1 : decide (n < 1) = false := by simp; omega
  have t2 : ((len : Int) == 0) = false := by simp; omega
  have hx : Hid (0 ≤ bits BinOp.xor IntKind.i64 (z1 * 131 + z2 * 1117 + p * 29 + i3 * 53) ((z1 * 131 + z2 * 1117 + p * 29 + i3 * 53) / 64)) := xor_pos _ _ (by omega) (by omega) (by omega) (by omega)
  go_enter Tryz.func33, Tryz.ntmps33
  go_wp2
  go_quiet (fail)
  go_wp2
  go_ret
  exact ⟨⟨_, hx.out, rfl⟩, _, rfl⟩

theorem pick_any (rb : Nat) (p n : Int) (w : World) (h : Rd w rb p) (p0 : 0 ≤ p) (p1 : p ≤ 1000000) (n1 : 1 ≤ n) :
    Calls Tryz.prog 33 #[.pointer (some ⟨rb, 0, none⟩), .int .i64 n] w fun e w' => (∃ v : Int, (0 ≤ v ∧ v < n) ∧ e = .returned (.int .i64 v)) ∧ Rd w' rb (p + 1) ∧ But rb w w' := by
  have hR := h.set (p + 1)
  have hB : But rb w (w.setCell ⟨rb, 1, none⟩ (.int .i64 (p + 1))) := (But.refl _ _).setCell _ _
  obtain ⟨a, len, cap, h0, h1, h2, h3, h4, h5, h6⟩ := h
  rcases h6 with h6 | ⟨bb, off, rfl, q2, q3, q4⟩
  · subst h6
    refine (pick_none rb cap a p n w n1 p0 p1 h1 h2 h3).mono ?_
    rintro e w' ⟨rfl, rfl⟩
    exact ⟨⟨0, ⟨by omega, by omega⟩, rfl⟩, hR, hB⟩
  · by_cases hl : len = 0
    · subst hl
      refine (pick_none rb cap _ p n w n1 p0 p1 h1 h2 h3).mono ?_
      rintro e w' ⟨rfl, rfl⟩
      exact ⟨⟨0, ⟨by omega, by omega⟩, rfl⟩, hR, hB⟩
    by_cases hp : p < (len : Int)
    · obtain ⟨z, z0, z1, hz⟩ := q4 p.toNat (by omega)
      refine (pick_in rb bb off len cap p n z w n1 p0 p1 (by omega) h5 hp z0 z1 (Nat.ne_of_lt q2) h1 h2 h3 hz).mono ?_
      rintro e w' ⟨rfl, rfl⟩
      exact ⟨⟨z % n, ⟨Int.emod_nonneg _ (by omega), Int.emod_lt_of_pos _ (by omega)⟩, rfl⟩, hR, hB⟩
    · have lp : (0 : Int) < (len : Int) := by omega
      have a1 := Int.emod_nonneg p (b := (len : Int)) (by omega)
      have a2 := Int.emod_lt_of_pos p lp
      have a3 := Int.emod_nonneg (p * 7 + 3) (b := (len : Int)) (by omega)
      have a4 := Int.emod_lt_of_pos (p * 7 + 3) lp
      have a5 : 0 ≤ p / (len : Int) := Int.ediv_nonneg p0 (by omega)
      have a6 : p / (len : Int) ≤ p := Int.ediv_le_self _ p0
      obtain ⟨z1, z10, z11, hz1⟩ := q4 (p % (len : Int)).toNat (by omega)
      obtain ⟨z2, z20, z21, hz2⟩ := q4 ((p * 7 + 3) % (len : Int)).toNat (by omega)
      refine (pick_past rb bb off len cap p n z1 z2 _ _ _ w n1 p0 p1 lp h5 (by omega) z10 z11 z20 z21 (Nat.ne_of_lt q2) h1 h2 h3 rfl rfl rfl a1 a2 a3 a4 a5 (by omega) hz1 hz2).mono ?_
      rintro e w' ⟨⟨x, x0, rfl⟩, k, rfl⟩
      exact ⟨⟨x.tmod n, ⟨Int.tmod_nonneg _ x0, Int.tmod_lt_of_pos _ (by omega)⟩, rfl⟩, hR.drewN k, hB.drewN k⟩
end Go.Proofs.YtlfaiekcmflgnaaGreatDoor

/- Draws of numbers off a code: a number each, nothing that was there is written. -/
namespace Go.Proofs.YtlfaiekcmflgnaaGreatDoor
open Go.RowKit
set_option linter.unusedVariables false
set_option maxRecDepth 100000

/-- a reader that can still be read k times -/
def Rk (w : World) (rb : Nat) (k : Nat) : Prop := ∃ p : Int, (0 ≤ p ∧ p + k ≤ 1000000) ∧ Rd w rb p
theorem Rk.mono {w : World} {rb k j : Nat} (h : Rk w rb k) (hj : j ≤ k) : Rk w rb j := by
  obtain ⟨p, hp, hr⟩ := h
  exact ⟨p, by omega, hr⟩
theorem Rk.old {w w' : World} {rb k : Nat} (h : Rk w rb k) (b : Below w.heap.size w w') : Rk w' rb k := by
  obtain ⟨p, hp, hr⟩ := h
  exact ⟨p, hp, hr.old b⟩
theorem Rk.alloc {w : World} {rb k : Nat} (h : Rk w rb k) (o : Obj) : Rk (w.alloc o) rb k := h.old ((Below.refl _ _).alloc (Nat.le_refl _) o)
theorem Rk.lt {w : World} {rb k : Nat} (h : Rk w rb k) : rb < w.heap.size := by
  obtain ⟨p, _, a, len, cap, h0, _⟩ := h
  exact h0
theorem Rk.far {w : World} {rb k : Nat} (h : Rk w rb k) (b i : Nat) (hb : rb < b) (v : Value) : Rk (w.setCell ⟨b, i, none⟩ v) rb k := by
  obtain ⟨p, hp, hr⟩ := h
  exact ⟨p, hp, hr.far b i hb v⟩
/-- two cells of another block than the reader's, that can be written -/
def Two (w : World) (b : Nat) : Prop := ∃ x y : Value, w.cell? ⟨b, 0, none⟩ = some x ∧ w.cell? ⟨b, 1, none⟩ = some y ∧ w.frozen? ⟨b, 0, none⟩ = false ∧ w.frozen? ⟨b, 1, none⟩ = false ∧ b < w.heap.size
theorem Two.but {w w' : World} {b rb : Nat} (h : Two w b) (k : But rb w w') (hne : b ≠ rb) : Two w' b := by
  obtain ⟨x, y, h1, h2, h3, h4, h5⟩ := h
  have e := k.block b h5 hne
  exact ⟨x, y, (World.cell?_of_block (w := w) (a := ⟨b, 0, none⟩) e).trans h1, (World.cell?_of_block (w := w) (a := ⟨b, 1, none⟩) e).trans h2, (World.frozen?_of_block (w := w) (a := ⟨b, 0, none⟩) e).trans h3, (World.frozen?_of_block (w := w) (a := ⟨b, 1, none⟩) e).trans h4, Nat.lt_of_lt_of_le h5 k.size⟩
theorem pick_k (rb k : Nat) (n : Int) (w : World) (h : Rk w rb (k + 1)) (n1 : 1 ≤ n) :
    Calls Tryz.prog 33 #[.pointer (some ⟨rb, 0, none⟩), .int .i64 n] w fun e w' => (∃ v : Int, (0 ≤ v ∧ v < n) ∧ e = .returned (.int .i64 v)) ∧ Rk w' rb k ∧ But rb w w' := by
  obtain ⟨p, hp, hr⟩ := h
  refine (pick_any rb p n w hr hp.1 (by omega) n1).mono ?_
  rintro e w' ⟨hv, hr', hb⟩
  exact ⟨hv, ⟨p + 1, by omega, hr'⟩, hb⟩

/-- a code: a slice of bytes that came in -/
def IsCode (w : World) (a : Option Addr) (len cap : Nat) : Prop :=
  len ≤ cap ∧ (cap : Int) ≤ 9223372036854775807 ∧ (len = 0 ∨ ∃ bb off : Nat, a = some ⟨bb, off, none⟩ ∧ bb < w.heap.size ∧ ∀ i, i < len → ∃ z : Int, 0 ≤ z ∧ z ≤ 255 ∧ w.cell? ⟨bb, off + i, none⟩ = some (.int .u8 z))
theorem IsCode.old {w w' : World} {a : Option Addr} {len cap : Nat} (h : IsCode w a len cap) (b : Below w.heap.size w w') : IsCode w' a len cap := by
  obtain ⟨h1, h2, h3⟩ := h
  refine ⟨h1, h2, ?_⟩
  rcases h3 with h3 | ⟨bb, off, q1, q2, q3⟩
  · exact .inl h3
  · refine .inr ⟨bb, off, q1, Nat.lt_of_lt_of_le q2 b.size, fun i hi => ?_⟩
    obtain ⟨z, z0, z1, hz⟩ := q3 i hi
    exact ⟨z, z0, z1, (b.cell (p := ⟨bb, off + i, none⟩) q2).trans hz⟩

theorem made_rk (w : World) (a : Option Addr) (len len' cap : Nat) (h : IsCode w a len cap) (hl : len' ≤ len) (h2 : len' ≤ 2000) : Rk (w.alloc (.cells #[.slice a len' cap, .int .i64 0] 70)) w.heap.size 1000 := by
  obtain ⟨h1, _, h3⟩ := h
  refine ⟨0, by omega, a, len', cap, by simp, by simp, by simp, by simp, h2, by omega, ?_⟩
  rcases h3 with h3 | ⟨bb, off, q1, q2, q3⟩
  · exact .inl (by omega)
  · refine .inr ⟨bb, off, q1, q2, by simp; omega, fun i hi => ?_⟩
    obtain ⟨z, z0, z1, hz⟩ := q3 i (by omega)
    exact ⟨z, z0, z1, (World.cell?_alloc_lt _ _ _ q2).trans hz⟩

set_option maxHeartbeats 400000 in
theorem open_few (w : World) (a : Option Addr) (len cap : Nat) (h : (len : Int) ≤ 2000) :
    Calls Tryz.prog 22 #[.slice a len cap] w fun e w' => e = .returned (.pointer (some ⟨w.heap.size, 0, none⟩)) ∧ w' = w.alloc (.cells #[.slice a len cap, .int .i64 0] 70) := by
  have t1 : decide ((2000 : Int) < (len : Int)) = false := by simp; omega
  go_enter Tryz.func22, Tryz.ntmps22
  go_wp2
  go_ret
  exact ⟨rfl, rfl⟩
set_option maxHeartbeats 400000 in
theorem open_many (w : World) (bb off len cap : Nat) (h : (2000 : Int) < (len : Int)) (hc : (len : Int) ≤ (cap : Int)) (hm : (cap : Int) ≤ 9223372036854775807) :
    Calls Tryz.prog 22 #[.slice (some ⟨bb, off, none⟩) len cap] w fun e w' => e = .returned (.pointer (some ⟨w.heap.size, 0, none⟩)) ∧ w' = w.alloc (.cells #[.slice (some ⟨bb, off, none⟩) 2000 cap, .int .i64 0] 70) := by
  have t1 : decide ((2000 : Int) < (len : Int)) = true := by simp; omega
  have t2 : (2000 : Int) ≤ (cap : Int) := by omega
  go_enter Tryz.func22, Tryz.ntmps22
  go_wp2
  go_ret
  exact ⟨rfl, rfl⟩
theorem open_k (w : World) (a : Option Addr) (len cap : Nat) (h : IsCode w a len cap) :
    Calls Tryz.prog 22 #[.slice a len cap] w fun e w' => e = .returned (.pointer (some ⟨w.heap.size, 0, none⟩)) ∧ ∃ o, w' = w.alloc o ∧ Rk (w.alloc o) w.heap.size 1000 := by
  by_cases hl : len ≤ 2000
  · refine (open_few w a len cap (by omega)).mono ?_
    rintro e w' ⟨rfl, rfl⟩
    exact ⟨rfl, _, rfl, made_rk w a len len cap h (Nat.le_refl _) hl⟩
  · have h' := h
    obtain ⟨h1, h2, h3⟩ := h'
    rcases h3 with h3 | ⟨bb, off, rfl, q2, q3⟩
    · omega
    · refine (open_many w bb off len cap (by omega) (by omega) h2).mono ?_
      rintro e w' ⟨rfl, rfl⟩
      exact ⟨rfl, _, rfl, made_rk w _ len 2000 cap h (by omega) (by omega)⟩

end Go.Proofs.YtlfaiekcmflgnaaGreatDoor

/- Draws of numbers as lists of digits off a code: some list each, in new memory; nothing that was there is written but the reader. -/
namespace Go.Proofs.YtlfaiekcmflgnaaGreatDoor
open Go.RowKit
set_option linter.unusedVariables false
set_option maxRecDepth 100000

theorem But.grown {rb : Nat} {w w' : World} (h : But rb w w') : w.grownBy w' (some rb) := ⟨h.os, h.tape, h.output, h.size, fun k hk hne => h.block k hk (fun e => hne (by rw [e]))⟩
theorem IGrows.but {w w' : World} {base rb : Nat} {v : Value} {xs : List Int} (h : IGrows w base v xs) (b : But rb w w') (hr : rb < base) : IGrows w' base v xs := h.kept b.grown (fun c e => by injection e with e; omega)
theorem But.owned {rb : Nat} {a b c : World} {base : Nat} {v : Value} {xs : List Int} (h : But rb a b) (G : IGrows b base v xs) (g : b.grownBy c v.ownBlock) (hb : a.heap.size ≤ base) : But rb a c :=
  ⟨g.os.trans h.os, g.tape.trans h.tape, g.output.trans h.output, Nat.le_trans h.size g.size, fun k hk hne => (g.block k (Nat.lt_of_lt_of_le hk h.size) (fun e => by have := (World.ownsRow.lt G k e.symm).1; omega)).trans (h.block k hk hne)⟩
theorem Rk.kept {w w' : World} {rb k : Nat} {row : Option Nat} (h : Rk w rb k) (g : w.grownBy w' row) (hne : ∀ b, row = some b → rb < b) : Rk w' rb k := by
  obtain ⟨p, hp, a, len, cap, h0, h1, h2, h3, h4, h5, h6⟩ := h
  have e := g.block rb h0 (fun e => by have := hne rb e.symm; omega)
  refine ⟨p, hp, a, len, cap, Nat.lt_of_lt_of_le h0 g.size, (World.cell?_of_block (w := w) (a := ⟨rb, 0, none⟩) e).trans h1, (World.cell?_of_block (w := w) (a := ⟨rb, 1, none⟩) e).trans h2, (World.frozen?_of_block (w := w) (a := ⟨rb, 1, none⟩) e).trans h3, h4, h5, ?_⟩
  rcases h6 with h6 | ⟨bb, off, q1, q2, q3, q4⟩
  · exact .inl h6
  · refine .inr ⟨bb, off, q1, q2, Nat.lt_of_lt_of_le q3 g.size, fun i hi => ?_⟩
    obtain ⟨z, z0, z1, hz⟩ := q4 i hi
    exact ⟨z, z0, z1, (World.cell?_of_block (w := w) (g.block bb q3 (fun e => by have := hne bb e.symm; omega))).trans hz⟩
theorem made_rkB (w : World) (a : Option Addr) (len len' cap : Nat) (h : IsCode w a len cap) (hl : len' ≤ len) (h2 : len' ≤ 2000) : Rk (w.alloc (.cells #[.slice a len' cap, .int .i64 0] 70)) w.heap.size 100000 := by
  obtain ⟨h1, _, h3⟩ := h
  refine ⟨0, by omega, a, len', cap, by simp, by simp, by simp, by simp, h2, by omega, ?_⟩
  rcases h3 with h3 | ⟨bb, off, q1, q2, q3⟩
  · exact .inl (by omega)
  · refine .inr ⟨bb, off, q1, q2, by simp; omega, fun i hi => ?_⟩
    obtain ⟨z, z0, z1, hz⟩ := q3 i (by omega)
    exact ⟨z, z0, z1, (World.cell?_alloc_lt _ _ _ q2).trans hz⟩
theorem open_kB (w : World) (a : Option Addr) (len cap : Nat) (h : IsCode w a len cap) :
    Calls Tryz.prog 22 #[.slice a len cap] w fun e w' => e = .returned (.pointer (some ⟨w.heap.size, 0, none⟩)) ∧ ∃ o, w' = w.alloc o ∧ Rk (w.alloc o) w.heap.size 100000 := by
  by_cases hl : len ≤ 2000
  · refine (open_few w a len cap (by omega)).mono ?_
    rintro e w' ⟨rfl, rfl⟩
    exact ⟨rfl, _, rfl, made_rkB w a len len cap h (Nat.le_refl _) hl⟩
  · have h' := h
    obtain ⟨h1, h2, h3⟩ := h'
    rcases h3 with h3 | ⟨bb, off, rfl, q2, q3⟩
    · omega
    · refine (open_many w bb off len cap (by omega) (by omega) h2).mono ?_
      rintro e w' ⟨rfl, rfl⟩
      exact ⟨rfl, _, rfl, made_rkB w _ len 2000 cap h (by omega) (by omega)⟩
set_option maxHeartbeats 4000000 in
theorem sNatOfG (n : Nat) (hn : n < 18446744073709551616) (w : World) :
    Calls Tryz.prog 37 #[.int .u64 (n : Int)] w fun e w' => (∃ v, e = .returned v ∧ IGrows w' w.heap.size v (natL n)) ∧ Below w.heap.size w w' := by
  obtain ⟨i0, hi, hz0, hz1, hz2⟩ := info_parts infoInt
  have hlen : (natL n).length ≤ 4 := natL_len.2 (by omega)
  go_enter Tryz.func37, Tryz.ntmps37
  go_wp2
  go_loopw [0, 3] (fun p o wr => ∃ (m : Nat) (xs : List Int), p = .int .u64 m ∧ m ≤ n ∧ natL n = xs ++ natL m ∧ IGrows wr w.heap.size o xs ∧ Below w.heap.size w wr) (fun p _ _ => (intOf p).toNat)
  case atStart => exact ⟨n, [], rfl, Nat.le_refl _, rfl, IGrows.nil _ _, Below.refl _ _⟩
  case round =>
    obtain ⟨m, xs, rfl, hm, he, G, hb⟩ := hrel
    by_cases h0 : m = 0
    · subst h0
      rw [natL_zero, List.append_nil] at he
      go_wp2
      go_ret
      rw [he]
      exact ⟨⟨_, rfl, G⟩, hb⟩
    · have he2 := he
      rw [snocN m h0, ← List.append_assoc] at he2
      have hxl : xs.length ≤ 3 := by
        have := congrArg List.length he2
        simp at this
        omega
      have G2 := G.alloc (.cells #[.int .i64 ((m : Int) % 65536)] 3)
      have B2 : Below w.heap.size w (wr.alloc (.cells #[.int .i64 ((m : Int) % 65536)] 3)) := old_alloc hb _
      have cw := cells_one wr wr.heap.size rfl (.int .i64 ((m : Int) % 65536)) 3
      have hsz := hb.size
      replace he := hd he
      replace he2 := hd he2
      go_wp2_with (at_builtin; refine wpList_append_own _ rfl _ _ 22 rfl w.heap.size 3 i0 _ 1 8 Tryz.underlying22 hi hz0 hz1 hz2 rfl (by decide) _ _ _ rfl G2 ⟨wr.heap.size, 0, none⟩ 1 1 [.int .i64 ((m : Int) % 65536)] rfl rfl cw (by simp [Value.oneCell']) (by unfold maxLen; omega) (by omega) (by simp; omega) ?_; intro v' w5 hown hgrow _)
      go_roundw
      case rel =>
        refine ⟨m / 65536, xs ++ [((m : Int) % 65536)], by go_num, by omega, he2.out, ?_, ?_⟩
        · unfold IGrows
          rw [ints_snoc, List.length_append]
          exact hown
        · exact B2.grown hgrow B2.size (fun c e => by have := (World.ownsRow.lt G2 c e).1; omega)
      case measure => simp [intOf]; omega
end Go.Proofs.YtlfaiekcmflgnaaGreatDoor

/- A draw of digits: some list of numbers, 256 at most, in new memory; nothing that was there is written but the reader. -/
namespace Go.Proofs.YtlfaiekcmflgnaaGreatDoor
open Go.RowKit
set_option linter.unusedVariables false
set_option maxRecDepth 100000

theorem IGrows.base {w : World} {base base' : Nat} {v : Value} {xs : List Int} (h : IGrows w base v xs) (hb : base' ≤ base) : IGrows w base' v xs :=
  World.ownsRow.mono h hb
theorem grows_stored {w : World} {base g cap n : Nat} {xs : List Int} (h : IGrows w base (.slice (some ⟨g, 0, none⟩) n cap) xs) (i : Nat) (z : Int) : IGrows (w.setCell ⟨g, i, none⟩ (.int .i64 z)) base (.slice (some ⟨g, 0, none⟩) n cap) (xs.set i z) := by
  have h2 : n = xs.length := by
    rcases h.2 with ⟨e, _⟩ | ⟨g', cap', cur, e, _⟩
    · cases e
    · injection e
  subst h2
  have := World.ownsRow.stored h i (.int .i64 z)
  unfold IGrows
  rw [List.length_set, show ints (xs.set i z) = (ints xs).set i (.int .i64 z) by simp [ints, List.map_set]]
  exact this.1
theorem fits_snoc {xs : List Int} {x : Int} (h : IFits xs) (hx : -9223372036854775808 ≤ x ∧ x ≤ 9223372036854775807) : IFits (xs ++ [x]) := by
  intro y hy
  rcases List.mem_append.1 hy with hy | hy
  · exact h y hy
  · rw [List.mem_singleton] at hy; subst hy; exact hx
theorem fits_set {xs : List Int} {x : Int} (h : IFits xs) (i : Nat) (hx : -9223372036854775808 ≤ x ∧ x ≤ 9223372036854775807) : IFits (xs.set i x) := by
  intro y hy
  rcases List.mem_or_eq_of_mem_set hy with hy | rfl
  · exact h y hy
  · exact hx
theorem digs_snoc {xs : List Int} {x : Int} (h : digs xs) (hx : 0 ≤ x ∧ x < 65536) : digs (xs ++ [x]) := digs_append.2 ⟨h, digs_cons.2 ⟨hx, digs_nil⟩⟩
theorem digs_put {xs : List Int} {x : Int} (h : digs xs) (i : Nat) (hx : 0 ≤ x ∧ x < 65536) : digs (xs.set i x) := by
  intro j hj
  rw [List.length_set] at hj
  rw [List.getD_eq_getElem?_getD, List.getElem?_set]
  by_cases e : i = j
  · subst e
    rw [if_pos rfl, if_pos hj]
    exact hx
  · rw [if_neg e, ← List.getD_eq_getElem?_getD]
    exact h j hj
theorem pow16 {i : Nat} (h : i < 16) : 0 ≤ wrap64 (2 ^ ((i : Int)).toNat) ∧ wrap64 (2 ^ ((i : Int)).toNat) < 65536 := by
  have h1 : 2 ^ i ≤ 32768 := (by decide : ∀ m : Fin 16, 2 ^ m.val ≤ 32768) ⟨i, h⟩
  rw [Int.toNat_natCast]
  have h2 : (2 : Int) ^ i = ((2 ^ i : Nat) : Int) := by rw [Int.natCast_pow]; rfl
  rw [h2]
  generalize 2 ^ i = P at *
  unfold wrap64
  omega
set_option maxHeartbeats 4000000 in
theorem nat_k (rb k : Nat) (w : World) (h : Rk w rb (k + 600)) :
    Calls Tryz.prog 53 #[.pointer (some ⟨rb, 0, none⟩)] w fun e w' => (∃ v xs, e = .returned v ∧ IGrows w' w.heap.size v xs ∧ digs xs ∧ xs.length ≤ 256) ∧ Rk w' rb k ∧ But rb w w' := by
  obtain ⟨i0, hi, hz0, hz1, hz2⟩ := info_parts infoInt
  have hrl := h.lt
  go_enter Tryz.func53, Tryz.ntmps53
  go_wp2_with fail
  refine (pick_k rb (k + 599) _ _ h (by decide)).mono ?_
  rintro e w1 ⟨⟨n0, ⟨na, nb⟩, rfl⟩, R1, B1⟩
  clear h
  go_wp2_with fail
  refine (pick_k rb (k + 598) _ _ R1 (by decide)).mono ?_
  rintro e w2 ⟨⟨t0, ⟨ta, tb⟩, rfl⟩, R2, B2⟩
  replace B2 := B1.trans B2
  clear R1 B1
  go_upto_block 0 with fail
  go_cut [3] (fun s wx => ∃ m : Nat, m ≤ 256 ∧ s = .int .i64 (m : Int) ∧ Rk wx rb (k + 590) ∧ But rb w wx)
  case first =>
    by_cases t1 : t0 = 0
    · subst t1
      go_wp2_with fail
      refine (pick_k rb (k + 597) _ _ R2 (by decide)).mono ?_
      rintro e w3 ⟨⟨n1, ⟨ma, mb⟩, rfl⟩, R3, B3⟩
      obtain ⟨m, rfl⟩ := Int.eq_ofNat_of_zero_le ma
      go_wp2_with fail
      go_meet
      exact ⟨m, by omega, rfl, R3.mono (by omega), B2.trans B3⟩
    have t1' : (t0 == 0) = false := by simpa using t1
    by_cases t2 : t0 = 1
    · subst t2
      go_wp2_with fail
      refine (pick_k rb (k + 597) _ _ R2 (by decide)).mono ?_
      rintro e w3 ⟨⟨n1, ⟨ma, mb⟩, rfl⟩, R3, B3⟩
      replace B3 := B2.trans B3
      by_cases c : n1 = 0
      · subst c
        go_wp2_with fail
        refine (pick_k rb (k + 596) _ _ R3 (by decide)).mono ?_
        rintro e w4 ⟨⟨n2, ⟨pa, pb⟩, rfl⟩, R4, B4⟩
        replace B4 := B3.trans B4
        obtain ⟨m, hm⟩ := Int.eq_ofNat_of_zero_le (show 0 ≤ 256 - n2 by omega)
        go_wp2_with fail
        go_meet
        exact ⟨m, by omega, by go_num, R4.mono (by omega), B4⟩
      · have c' : (n1 == 0) = false := by simpa using c
        obtain ⟨m, rfl⟩ := Int.eq_ofNat_of_zero_le na
        go_wp2_with fail
        go_meet
        exact ⟨m, by omega, rfl, R3.mono (by omega), B3⟩
    have t2' : (t0 == 1) = false := by simpa using t2
    by_cases t3 : t0 = 2
    · subst t3
      go_wp2_with fail
      refine (pick_k rb (k + 597) _ _ R2 (by decide)).mono ?_
      rintro e w3 ⟨⟨n1, ⟨ma, mb⟩, rfl⟩, R3, B3⟩
      replace B3 := B2.trans B3
      obtain ⟨m, rfl⟩ := Int.eq_ofNat_of_zero_le ma
      go_wp2_with fail
      refine (sNatOfG m (by omega) _).mono ?_
      rintro e w4 ⟨⟨v, rfl, G⟩, hb4⟩
      have hG := G.base B3.size
      have hl1 : (natL m).length ≤ 256 := Nat.le_trans (natL_len (n := 1).2 (by omega)) (by omega)
      have hR := (R3.old hb4).mono (show k ≤ k + 597 by omega)
      have hB := B3.trans (But.of hb4)
      clear R3 R2 B2 B3 G hb4
      go_wp2
      go_ret
      exact ⟨⟨v, _, rfl, hG, digs_natL _, hl1⟩, hR, hB⟩
    have t3' : (t0 == 2) = false := by simpa using t3
    obtain ⟨m, rfl⟩ := Int.eq_ofNat_of_zero_le na
    go_wp2_with fail
    go_meet
    exact ⟨m, by omega, rfl, R2.mono (by omega), B2⟩
  case rest =>
    clear R2 B2
    obtain ⟨n, hn, rfl, R2, B2⟩ := hcut
    go_wp2_with fail
    refine (pick_k rb (k + 589) _ _ R2 (by decide)).mono ?_
    rintro e w3 ⟨⟨kd, ⟨ka, kb⟩, rfl⟩, R3, B3⟩
    replace B3 := B2.trans B3
    clear R2 B2
    go_wp2_with fail
    go_loopw [5, 6] (fun o i wr => ∃ (j : Nat) (xs : List Int), j ≤ n ∧ i = .int .i64 (j : Int) ∧ Hid (xs.length = j) ∧ IGrows wr w.heap.size o xs ∧ Hid (digs xs) ∧ Rk wr rb (k + 20 + 2 * (n - j)) ∧ But rb w wr) (fun _ i _ => n - (intOf i).toNat)
    case atStart => exact ⟨0, [], by omega, rfl, rfl, IGrows.nil _ _, digs_nil, R3.mono (by omega), B3⟩
    case round =>
      obtain ⟨j, xs, hj, rfl, hl, G, F, R0, B0⟩ := hrel
      by_cases hlt : j < n
      · have hlt' : (j : Int) < (n : Int) := by omega
        have hxl : xs.length ≤ 255 := by have := hl.out; omega
        replace R0 : Rk wr rb (k + 20 + 2 * (n - (j + 1)) + 1 + 1) := R0.mono (by omega)
        go_wp2_with fail
        refine (pick_k rb _ _ _ R0 (by decide)).mono ?_
        rintro e w4 ⟨⟨u, ⟨ua, ub⟩, rfl⟩, R4, B4⟩
        go_wp2_with fail
        refine (pick_k rb _ _ _ R4 (by decide)).mono ?_
        rintro e w5 ⟨⟨u', ⟨ua', ub'⟩, rfl⟩, R5, B5⟩
        replace G := (G.but B4 hrl).but B5 hrl
        replace B5 := (B0.trans B4).trans B5
        have hsz := B5.size
        have hk3 : kd = 0 ∨ kd = 1 ∨ ((kd == 0) = false ∧ (kd == 1) = false) := by
          by_cases h0 : kd = 0
          · exact .inl h0
          · by_cases h1 : kd = 1
            · exact .inr (.inl h1)
            · exact .inr (.inr ⟨by simpa using h0, by simpa using h1⟩)
        rcases hk3 with rfl | rfl | ⟨hk0, hk1⟩
        · have G2 := G.alloc (.cells #[.int .i64 (65535)] 3)
          have R2 := R5.alloc (.cells #[.int .i64 (65535)] 3)
          have B2 : But rb w (w5.alloc (.cells #[.int .i64 (65535)] 3)) := B5.alloc _
          have cw := cells_one w5 w5.heap.size rfl (.int .i64 (65535)) 3
          have hl' : Hid ((xs ++ [(65535 : Int)]).length = j + 1) := by show _ = _; rw [List.length_append]; have := hl.out; simp; omega
          have hF' : Hid (digs (xs ++ [(65535 : Int)])) := digs_snoc F.out ⟨by decide, by decide⟩
          clear hl F R0 R4 B4 R3 B3 G R5 B5
          go_wp2_with (at_builtin; refine wpList_append_own _ rfl _ _ 22 rfl w.heap.size 3 i0 _ 1 8 Tryz.underlying22 hi hz0 hz1 hz2 rfl (by decide) _ _ _ rfl G2 ⟨w5.heap.size, 0, none⟩ 1 1 [.int .i64 (65535)] rfl rfl cw (by simp [Value.oneCell']) (by unfold maxLen; omega) (by omega) (by simp; omega) ?_; intro v' w6 hown hgrow _)
          go_roundw
          case rel =>
            refine ⟨j + 1, xs ++ [(65535)], by omega, by go_num, hl', ?_, hF', R2.kept hgrow (fun c e => by have := (World.ownsRow.lt G2 c e).1; omega), B2.owned G2 hgrow (Nat.le_refl _)⟩
            unfold IGrows
            rw [ints_snoc, List.length_append]
            exact hown
          case measure => simp [intOf]; omega
        · have G2 := G.alloc (.cells #[.int .i64 (0)] 3)
          have R2 := R5.alloc (.cells #[.int .i64 (0)] 3)
          have B2 : But rb w (w5.alloc (.cells #[.int .i64 (0)] 3)) := B5.alloc _
          have cw := cells_one w5 w5.heap.size rfl (.int .i64 (0)) 3
          have hl' : Hid ((xs ++ [(0 : Int)]).length = j + 1) := by show _ = _; rw [List.length_append]; have := hl.out; simp; omega
          have hF' : Hid (digs (xs ++ [(0 : Int)])) := digs_snoc F.out ⟨by decide, by decide⟩
          clear hl F R0 R4 B4 R3 B3 G R5 B5
          go_wp2_with (at_builtin; refine wpList_append_own _ rfl _ _ 22 rfl w.heap.size 3 i0 _ 1 8 Tryz.underlying22 hi hz0 hz1 hz2 rfl (by decide) _ _ _ rfl G2 ⟨w5.heap.size, 0, none⟩ 1 1 [.int .i64 (0)] rfl rfl cw (by simp [Value.oneCell']) (by unfold maxLen; omega) (by omega) (by simp; omega) ?_; intro v' w6 hown hgrow _)
          go_roundw
          case rel =>
            refine ⟨j + 1, xs ++ [(0)], by omega, by go_num, hl', ?_, hF', R2.kept hgrow (fun c e => by have := (World.ownsRow.lt G2 c e).1; omega), B2.owned G2 hgrow (Nat.le_refl _)⟩
            unfold IGrows
            rw [ints_snoc, List.length_append]
            exact hown
          case measure => simp [intOf]; omega
        · have G2 := G.alloc (.cells #[.int .i64 (u * 256 + u')] 3)
          have R2 := R5.alloc (.cells #[.int .i64 (u * 256 + u')] 3)
          have B2 : But rb w (w5.alloc (.cells #[.int .i64 (u * 256 + u')] 3)) := B5.alloc _
          have cw := cells_one w5 w5.heap.size rfl (.int .i64 (u * 256 + u')) 3
          have hl' : Hid ((xs ++ [(u * 256 + u' : Int)]).length = j + 1) := by show _ = _; rw [List.length_append]; have := hl.out; simp; omega
          have hF' : Hid (digs (xs ++ [(u * 256 + u' : Int)])) := digs_snoc F.out ⟨by omega, by omega⟩
          clear hl F R0 R4 B4 R3 B3 G R5 B5
          go_wp2_with (at_builtin; refine wpList_append_own _ rfl _ _ 22 rfl w.heap.size 3 i0 _ 1 8 Tryz.underlying22 hi hz0 hz1 hz2 rfl (by decide) _ _ _ rfl G2 ⟨w5.heap.size, 0, none⟩ 1 1 [.int .i64 (u * 256 + u')] rfl rfl cw (by simp [Value.oneCell']) (by unfold maxLen; omega) (by omega) (by simp; omega) ?_; intro v' w6 hown hgrow _)
          go_roundw
          case rel =>
            refine ⟨j + 1, xs ++ [(u * 256 + u')], by omega, by go_num, hl', ?_, hF', R2.kept hgrow (fun c e => by have := (World.ownsRow.lt G2 c e).1; omega), B2.owned G2 hgrow (Nat.le_refl _)⟩
            unfold IGrows
            rw [ints_snoc, List.length_append]
            exact hown
          case measure => simp [intOf]; omega
      · obtain rfl : j = n := by omega
        have hll := hl.out
        clear R3 B3
        by_cases h0 : j = 0
        · subst h0
          obtain rfl : xs = [] := List.length_eq_zero_iff.1 hll
          clear hl hll
          go_wp2
          go_ret
          exact ⟨⟨_, _, rfl, G, digs_nil, by simp⟩, R0.mono (by omega), B0⟩
        have hrow := G.row (by omega)
        obtain ⟨g, cap, rfl, hg1, hg2, hg3, hg4⟩ := hrow
        obtain ⟨y, hy, hyc, hyf⟩ := hg4.at (k := j - 1) (by omega)
        have hj0 : (0 : Int) < (j : Int) := by omega
        have hjw : IntKind.wrap .i64 ((j : Int) - 1) = (j : Int) - 1 := by rw [IntKind.wrap_i64]; omega
        have htn : ((j : Int) - 1).toNat = j - 1 := by omega
        have hix : (j : Int) - 1 < (xs.length : Int) := by omega
        have hix0 : 0 ≤ (j : Int) - 1 := by omega
        clear hy
        by_cases hy0 : y = 0
        · subst hy0
          go_wp2_with fail
          refine (pick_k rb (k + 19) _ _ (R0.mono (by omega)) (by decide)).mono ?_
          rintro e w4 ⟨⟨u, ⟨ua, ub⟩, rfl⟩, R4, B4⟩
          have G4 := G.but B4 hrl
          have hyc4 : w4.cell? ⟨g, j - 1, none⟩ = some (.int .i64 0) := (World.cell?_of_block (w := wr) (B4.block g (World.block_lt_of_cell? _ _ hyc) (by omega))).trans hyc
          have hyf4 : w4.frozen? ⟨g, j - 1, none⟩ = false := (World.frozen?_of_block (w := wr) (B4.block g (World.block_lt_of_cell? _ _ hyc) (by omega))).trans hyf
          clear hyc hyf
          obtain ⟨i, rfl⟩ := Int.eq_ofNat_of_zero_le ua
          have hz : 0 ≤ wrap64 (2 ^ ((i : Int)).toNat) ∧ wrap64 (2 ^ ((i : Int)).toNat) < 65536 :=
            pow16 (by omega)
          have hzh := hd hz
          clear hz
          rw [hll] at G4
          have G5 := hd (grows_stored G4 (j - 1) (wrap64 (2 ^ ((i : Int)).toNat)))
          have R5 := hd ((R4.mono (show k ≤ k + 19 by omega)).far g (j - 1) (by omega) (.int .i64 (wrap64 (2 ^ ((i : Int)).toNat))))
          have B5 := hd ((B0.trans B4).far (p := ⟨g, j - 1, none⟩) hg1 (.int .i64 (wrap64 (2 ^ ((i : Int)).toNat))))
          have F5 := hd (digs_put F.out (j - 1) hzh.out)
          clear G4 R4 B4 B0 R0 G F
          go_wp2
          go_ret
          exact ⟨⟨_, _, rfl, G5.out, F5.out, by rw [List.length_set]; have := hl.out; omega⟩, R5.out, B5.out⟩
        · have hy1 : (y == 0) = false := by simpa using hy0
          clear hll
          go_wp2
          go_ret
          exact ⟨⟨_, _, rfl, G, F.out, by have := hl.out; omega⟩, R0.mono (by omega), B0⟩
end Go.Proofs.YtlfaiekcmflgnaaGreatDoor

/- A draw of digits, one in twenty no number's: some list of numbers, 257 at most, in new memory. -/
namespace Go.Proofs.YtlfaiekcmflgnaaGreatDoor
open Go.RowKit
set_option linter.unusedVariables false
set_option maxRecDepth 100000

def lenV : Value → Nat
  | .slice _ n _ => n
  | _ => 0
theorem IGrows.lenV {w : World} {base : Nat} {v : Value} {xs : List Int} (h : IGrows w base v xs) : lenV v = xs.length := by
  rcases h.2 with ⟨h1, h2⟩ | ⟨g, cap, cur, h1, _⟩
  · rw [h1, h2]; rfl
  · rw [h1]; rfl
theorem IGrows.sl {w : World} {base : Nat} {v : Value} {xs : List Int} (h : IGrows w base v xs) : ∃ a c, v = .slice a xs.length c := by
  rcases h.2 with ⟨h1, h2⟩ | ⟨g, cap, cur, h1, _⟩
  · exact ⟨_, _, by rw [h1, h2]⟩
  · exact ⟨_, _, h1⟩
set_option maxHeartbeats 4000000 in
theorem raw_k (rb k : Nat) (w : World) (h : Rk w rb (k + 700)) :
    Calls Tryz.prog 44 #[.pointer (some ⟨rb, 0, none⟩)] w fun e w' => (∃ v xs, e = .returned v ∧ IGrows w' w.heap.size v xs ∧ IFits xs ∧ xs.length ≤ 257) ∧ Rk w' rb k ∧ But rb w w' := by
  obtain ⟨i0, hi, hz0, hz1, hz2⟩ := info_parts infoInt
  have hrl := h.lt
  go_enter Tryz.func44, Tryz.ntmps44
  go_wp2_with fail
  refine (nat_k rb (k + 100) _ h).mono ?_
  rintro e w1 ⟨⟨v, xs, rfl, G, F_, hl0⟩, R1, B1⟩
  have F := hd (digs_fits F_)
  clear h F_
  go_wp2_with fail
  refine (pick_k rb (k + 99) _ _ R1 (by decide)).mono ?_
  rintro e w2 ⟨⟨t0, ⟨ta, tb⟩, rfl⟩, R2, B2⟩
  replace G := G.but B2 hrl
  have B3 := B1.trans B2
  have R3 := R2.mono (show k ≤ k + 99 by omega)
  clear R1 B1 R2 B2
  by_cases t1 : t0 = 0
  · subst t1
    have G2 := G.alloc (.cells #[.int .i64 (0)] 3)
    have R2 := R3.alloc (.cells #[.int .i64 (0)] 3)
    have B2 : But rb w (w2.alloc (.cells #[.int .i64 (0)] 3)) := B3.alloc _
    have cw := cells_one w2 w2.heap.size rfl (.int .i64 (0)) 3
    have hl' : Hid ((xs ++ [(0 : Int)]).length = xs.length + 1) := by show _ = _; rw [List.length_append]; rfl
    have hF' : Hid (IFits (xs ++ [(0 : Int)])) := fits_snoc F.out ⟨by decide, by decide⟩
    have hsz := B3.size
    clear F G R3 B3
    go_wp2_with (at_builtin; refine wpList_append_own _ rfl _ _ 22 rfl w.heap.size 3 i0 _ 1 8 Tryz.underlying22 hi hz0 hz1 hz2 rfl (by decide) _ _ _ rfl G2 ⟨w2.heap.size, 0, none⟩ 1 1 [.int .i64 (0)] rfl rfl cw (by simp [Value.oneCell']) (by unfold maxLen; omega) (by omega) (by simp; omega) ?_; intro v' w6 hown hgrow _)
    have hGG : IGrows w6 w.heap.size v' (xs ++ [(0 : Int)]) := by
      unfold IGrows
      rw [ints_snoc, List.length_append]
      exact hown
    have hRR := R2.kept hgrow (fun c e => by have := (World.ownsRow.lt G2 c e).1; omega)
    have hBB := B2.owned G2 hgrow (Nat.le_refl _)
    clear G2 R2 B2 cw hgrow hown
    go_wp2
    go_ret
    exact ⟨⟨_, _, rfl, hGG, hF'.out, by have := hl'.out; omega⟩, hRR, hBB⟩
  have t1' : (t0 == 0) = false := by simpa using t1
  by_cases t2 : t0 = 1
  · subst t2
    have G2 := G.alloc (.cells #[.int .i64 (65536)] 3)
    have R2 := R3.alloc (.cells #[.int .i64 (65536)] 3)
    have B2 : But rb w (w2.alloc (.cells #[.int .i64 (65536)] 3)) := B3.alloc _
    have cw := cells_one w2 w2.heap.size rfl (.int .i64 (65536)) 3
    have hl' : Hid ((xs ++ [(65536 : Int)]).length = xs.length + 1) := by show _ = _; rw [List.length_append]; rfl
    have hF' : Hid (IFits (xs ++ [(65536 : Int)])) := fits_snoc F.out ⟨by decide, by decide⟩
    have hsz := B3.size
    clear F G R3 B3
    go_wp2_with (at_builtin; refine wpList_append_own _ rfl _ _ 22 rfl w.heap.size 3 i0 _ 1 8 Tryz.underlying22 hi hz0 hz1 hz2 rfl (by decide) _ _ _ rfl G2 ⟨w2.heap.size, 0, none⟩ 1 1 [.int .i64 (65536)] rfl rfl cw (by simp [Value.oneCell']) (by unfold maxLen; omega) (by omega) (by simp; omega) ?_; intro v' w6 hown hgrow _)
    have hGG : IGrows w6 w.heap.size v' (xs ++ [(65536 : Int)]) := by
      unfold IGrows
      rw [ints_snoc, List.length_append]
      exact hown
    have hRR := R2.kept hgrow (fun c e => by have := (World.ownsRow.lt G2 c e).1; omega)
    have hBB := B2.owned G2 hgrow (Nat.le_refl _)
    clear G2 R2 B2 cw hgrow hown
    go_wp2
    go_ret
    exact ⟨⟨_, _, rfl, hGG, hF'.out, by have := hl'.out; omega⟩, hRR, hBB⟩
  have t2' : (t0 == 1) = false := by simpa using t2
  by_cases t3 : t0 = 2
  · subst t3
    have G2 := G.alloc (.cells #[.int .i64 (-1)] 3)
    have R2 := R3.alloc (.cells #[.int .i64 (-1)] 3)
    have B2 : But rb w (w2.alloc (.cells #[.int .i64 (-1)] 3)) := B3.alloc _
    have cw := cells_one w2 w2.heap.size rfl (.int .i64 (-1)) 3
    have hl' : Hid ((xs ++ [(-1 : Int)]).length = xs.length + 1) := by show _ = _; rw [List.length_append]; rfl
    have hF' : Hid (IFits (xs ++ [(-1 : Int)])) := fits_snoc F.out ⟨by decide, by decide⟩
    have hsz := B3.size
    clear F G R3 B3
    go_wp2_with (at_builtin; refine wpList_append_own _ rfl _ _ 22 rfl w.heap.size 3 i0 _ 1 8 Tryz.underlying22 hi hz0 hz1 hz2 rfl (by decide) _ _ _ rfl G2 ⟨w2.heap.size, 0, none⟩ 1 1 [.int .i64 (-1)] rfl rfl cw (by simp [Value.oneCell']) (by unfold maxLen; omega) (by omega) (by simp; omega) ?_; intro v' w6 hown hgrow _)
    have hGG : IGrows w6 w.heap.size v' (xs ++ [(-1 : Int)]) := by
      unfold IGrows
      rw [ints_snoc, List.length_append]
      exact hown
    have hRR := R2.kept hgrow (fun c e => by have := (World.ownsRow.lt G2 c e).1; omega)
    have hBB := B2.owned G2 hgrow (Nat.le_refl _)
    clear G2 R2 B2 cw hgrow hown
    go_wp2
    go_ret
    exact ⟨⟨_, _, rfl, hGG, hF'.out, by have := hl'.out; omega⟩, hRR, hBB⟩
  have t3' : (t0 == 2) = false := by simpa using t3
  by_cases t4 : t0 = 3
  · subst t4
    go_wp2_with fail
    go_loopw [3] (fun o wr => ∃ xs : List Int, IGrows wr w.heap.size o xs ∧ Hid (IFits xs) ∧ xs.length ≤ 257 ∧ Rk wr rb k ∧ But rb w wr) (fun o _ => 257 - lenV o)
    case atStart => exact ⟨xs, G, F, by omega, R3, B3⟩
    case round =>
      clear G F R3 B3 hl0 xs
      obtain ⟨xs, G, F, hl0, R3, B3⟩ := hrel
      obtain ⟨av, cv, rfl⟩ := G.sl
      by_cases hc : xs.length ≤ 256
      · have hc' : (xs.length : Int) ≤ 256 := by omega
        have G2 := G.alloc (.cells #[.int .i64 (1)] 3)
        have R2 := R3.alloc (.cells #[.int .i64 (1)] 3)
        have B2 : But rb w (wr.alloc (.cells #[.int .i64 (1)] 3)) := B3.alloc _
        have cw := cells_one wr wr.heap.size rfl (.int .i64 (1)) 3
        have hl' : Hid ((xs ++ [(1 : Int)]).length = xs.length + 1) := by show _ = _; rw [List.length_append]; rfl
        have hF' : Hid (IFits (xs ++ [(1 : Int)])) := fits_snoc F.out ⟨by decide, by decide⟩
        have hsz := B3.size
        clear F G R3 B3
        go_wp2_with (at_builtin; refine wpList_append_own _ rfl _ _ 22 rfl w.heap.size 3 i0 _ 1 8 Tryz.underlying22 hi hz0 hz1 hz2 rfl (by decide) _ _ _ rfl G2 ⟨wr.heap.size, 0, none⟩ 1 1 [.int .i64 (1)] rfl rfl cw (by simp [Value.oneCell']) (by unfold maxLen; omega) (by omega) (by simp; omega) ?_; intro v' w6 hown hgrow _)
        have hGG : IGrows w6 w.heap.size v' (xs ++ [(1 : Int)]) := by
          unfold IGrows
          rw [ints_snoc, List.length_append]
          exact hown
        have hRR := R2.kept hgrow (fun c e => by have := (World.ownsRow.lt G2 c e).1; omega)
        have hBB := B2.owned G2 hgrow (Nat.le_refl _)
        clear G2 R2 B2 cw hgrow hown
        have hm := hGG.lenV
        go_roundw
        case rel => exact ⟨_, hGG, hF', by have := hl'.out; omega, hRR, hBB⟩
        case measure =>
          have := hl'.out
          rw [hm]
          show 257 - _ < 257 - xs.length
          omega
      · have hc' : ¬ ((xs.length : Int) ≤ 256) := by omega
        go_wp2
        go_ret
        exact ⟨⟨_, rfl, _, G, F.out, hl0⟩, R3, B3⟩
  have t4' : (t0 == 3) = false := by simpa using t4
  go_wp2
  go_ret
  first | exact ⟨⟨_, _, rfl, G, F.out, by omega⟩, R3, B3⟩ | exact ⟨⟨_, rfl, _, G, F.out, by omega⟩, R3, B3⟩
end Go.Proofs.YtlfaiekcmflgnaaGreatDoor
