/- A reader of a code in memory: what its method pick does: a number from 0 to n-1, the reader one place further, all other old memory as it was. -/
import Derived.Test.YtgoffjpfddmhhaaGreatDoorPK01
import Derived.Test.YtgoffjpfddmhhaaGreatDoorPK21
import Derived.Deep.QuietTactic
import Derived.BigQuiet
namespace Go.Proofs.YtgoffjpfddmhhaaGreatDoor
open Go.RowKit


/-- all old blocks but one are as they were -/
structure But (rb : Nat) (w w' : World) : Prop where
  os : w'.os = w.os
  tape : w'.tape = w.tape
  output : w'.output = w.output
  size : w.heap.size ≤ w'.heap.size
  block : ∀ k, k < w.heap.size → k ≠ rb → w'.heap[k]? = w.heap[k]?

theorem But.refl (rb : Nat) (w : World) : But rb w w := ⟨rfl, rfl, rfl, Nat.le_refl _, fun _ _ _ => rfl⟩
theorem But.trans {rb : Nat} {a b c : World} (h : But rb a b) (k : But rb b c) : But rb a c :=
  ⟨k.os.trans h.os, k.tape.trans h.tape, k.output.trans h.output, Nat.le_trans h.size k.size, fun i hi hne => (k.block i (Nat.lt_of_lt_of_le hi h.size) hne).trans (h.block i hi hne)⟩
theorem But.of {rb : Nat} {a b : World} (h : Below a.heap.size a b) : But rb a b := ⟨h.os, h.tape, h.output, h.size, fun i hi _ => h.block i hi⟩
theorem But.drew {rb : Nat} {a b : World} (h : But rb a b) : But rb a b.drew := ⟨h.os, h.tape, h.output, h.size, h.block⟩
theorem But.drewN {rb : Nat} {a b : World} (h : But rb a b) (n : Nat) : But rb a (b.drewN n) := ⟨h.os, h.tape, h.output, h.size, h.block⟩
theorem But.alloc {rb : Nat} {a b : World} (h : But rb a b) (o : Obj) : But rb a (b.alloc o) := h.trans (But.of ((Below.refl _ _).alloc (Nat.le_refl _) o))
theorem But.setCell {rb : Nat} {a b : World} (h : But rb a b) (i : Nat) (v : Value) : But rb a (b.setCell ⟨rb, i, none⟩ v) :=
  h.trans ⟨rfl, rfl, rfl, by simp [World.setCell], fun k _ hne => Below.heap_setCell _ _ _ _ hne⟩
/-- behind the making of the one block all that was there before is as it was -/
theorem But.below {a b : World} {o : Obj} (h : But a.heap.size (a.alloc o) b) : Below a.heap.size a b :=
  ⟨h.os, h.tape, h.output, by have := h.size; simp at this; omega, fun k hk => (h.block k (by simp; omega) (by omega)).trans (Below.heap_alloc _ _ _ hk)⟩

/-- the code's bytes, in another block than the reader -/
def Bytes (w : World) (rb : Nat) (a : Option Addr) (len : Nat) : Prop :=
  len = 0 ∨ ∃ bb off : Nat, a = some ⟨bb, off, none⟩ ∧ bb < rb ∧ bb < w.heap.size ∧ ∀ i, i < len → ∃ z : Int, 0 ≤ z ∧ z ≤ 255 ∧ w.cell? ⟨bb, off + i, none⟩ = some (.int .u8 z)
/-- a reader at block rb, at place p -/
def Rd (w : World) (rb : Nat) (p : Int) : Prop :=
  ∃ (a : Option Addr) (len cap : Nat), rb < w.heap.size ∧ w.cell? ⟨rb, 0, none⟩ = some (.slice a len cap) ∧ w.cell? ⟨rb, 1, none⟩ = some (.int .i64 p) ∧ w.frozen? ⟨rb, 1, none⟩ = false ∧ len ≤ 2000 ∧ len ≤ cap ∧ Bytes w rb a len

theorem Bytes.but {w w' : World} {rb : Nat} {a : Option Addr} {len : Nat} (h : Bytes w rb a len) (b : But rb w w') : Bytes w' rb a len := by
  rcases h with h | ⟨bb, off, h1, h2, h3, h4⟩
  · exact .inl h
  · refine .inr ⟨bb, off, h1, h2, Nat.lt_of_lt_of_le h3 b.size, fun i hi => ?_⟩
    obtain ⟨z, z0, z1, hz⟩ := h4 i hi
    exact ⟨z, z0, z1, (World.cell?_of_block (w := w) (b.block bb h3 (Nat.ne_of_lt h2))).trans hz⟩
theorem Rd.old {w w' : World} {rb : Nat} {p : Int} (h : Rd w rb p) (b : Below w.heap.size w w') : Rd w' rb p := by
  obtain ⟨a, len, cap, h0, h1, h2, h3, h4, h5, h6⟩ := h
  exact ⟨a, len, cap, Nat.lt_of_lt_of_le h0 b.size, (b.cell (p := ⟨rb, 0, none⟩) h0).trans h1, (b.cell (p := ⟨rb, 1, none⟩) h0).trans h2, (b.frozen (p := ⟨rb, 1, none⟩) h0).trans h3, h4, h5, h6.but (But.of b)⟩
theorem Rd.drewN {w : World} {rb : Nat} {p : Int} (h : Rd w rb p) (n : Nat) : Rd (w.drewN n) rb p := h.old (below_drewN (Below.refl _ _) n)
theorem Rd.set {w : World} {rb : Nat} {p : Int} (h : Rd w rb p) (q : Int) : Rd (w.setCell ⟨rb, 1, none⟩ (.int .i64 q)) rb q := by
  obtain ⟨a, len, cap, h0, h1, h2, h3, h4, h5, h6⟩ := h
  refine ⟨a, len, cap, by simpa [World.setCell] using h0, ?_, World.cell?_setCell_same _ _ _ h2, by simpa using h3, h4, h5, h6.but ((But.refl _ _).setCell _ _)⟩
  rw [World.cell?_setCell_other _ _ _ _ (by intro h; injection h with _ h2; exact absurd h2 (by decide))]
  exact h1

theorem Rd.far {w : World} {rb : Nat} {p : Int} (h : Rd w rb p) (b i : Nat) (hb : rb < b) (v : Value) : Rd (w.setCell ⟨b, i, none⟩ v) rb p := by
  obtain ⟨a, len, cap, h0, h1, h2, h3, h4, h5, h6⟩ := h
  refine ⟨a, len, cap, by simpa [World.setCell] using h0, ?_, ?_, by simpa using h3, h4, h5, ?_⟩
  · rw [World.cell?_setCell_other _ _ _ _ (by intro h; injection h with h _; omega)]; exact h1
  · rw [World.cell?_setCell_other _ _ _ _ (by intro h; injection h with h _; omega)]; exact h2
  · rcases h6 with h6 | ⟨bb, off, q1, q2, q3, q4⟩
    · exact .inl h6
    · refine .inr ⟨bb, off, q1, q2, by simpa [World.setCell] using q3, fun j hj => ?_⟩
      obtain ⟨z, z0, z1, hz⟩ := q4 j hj
      refine ⟨z, z0, z1, ?_⟩
      rw [World.cell?_setCell_other _ _ _ _ (by intro h; injection h with h _; omega)]; exact hz
theorem But.far {rb : Nat} {a b : World} (h : But rb a b) {p : Addr} (hp : a.heap.size ≤ p.block) (v : Value) : But rb a (b.setCell p v) :=
  ⟨h.os, h.tape, h.output, by simpa [World.setCell] using h.size, fun k hk hne => (Below.heap_setCell _ _ _ _ (by omega)).trans (h.block k hk hne)⟩

theorem xor_pos (x y : Int) (h1 : 0 ≤ x) (h2 : x < 9223372036854775808) (h3 : 0 ≤ y) (h4 : y < 9223372036854775808) : 0 ≤ bits .xor .i64 x y := by
  obtain ⟨A, rfl⟩ := Int.eq_ofNat_of_zero_le h1
  obtain ⟨B, rfl⟩ := Int.eq_ofNat_of_zero_le h3
  have e : bits .xor .i64 (A : Int) (B : Int) = IntKind.i64.wrap (((BitVec.ofInt 64 (A : Int) ^^^ BitVec.ofInt 64 (B : Int)).toNat : Nat) : Int) := rfl
  have ha : (BitVec.ofInt 64 (A : Int)).toNat = A := by rw [BitVec.toNat_ofInt]; omega
  have hb : (BitVec.ofInt 64 (B : Int)).toNat = B := by rw [BitVec.toNat_ofInt]; omega
  rw [e, BitVec.toNat_xor, ha, hb]
  have l : A ^^^ B < 2 ^ 63 := Nat.xor_lt_two_pow (by omega) (by omega)
  generalize A ^^^ B = N at *
  have hx : (N : Int) % 2 ^ 64 = N := by omega
  simp only [IntKind.wrap, IntKind.bits, IntKind.signed, hx]
  rw [if_neg (by simp; omega)]
  omega

set_option maxHeartbeats 400000 in
theorem pick_none (rb cap : Nat) (a : Option Addr) (p n : Int) (w : World) (n1 : 1 ≤ n) (p0 : 0 ≤ p) (p1 : p ≤ 1000000)
    (r0 : w.cell? ⟨rb, 0, none⟩ = some (.slice a 0 cap)) (r1 : w.cell? ⟨rb, 1, none⟩ = some (.int .i64 p)) (rf : w.frozen? ⟨rb, 1, none⟩ = false) :
    Calls Tryz.prog 24 #[.pointer (some ⟨rb, 0, none⟩), .int .i64 n] w fun e w' => e = .returned (.int .i64 0) ∧ w' = w.setCell ⟨rb, 1, none⟩ (.int .i64 (p + 1)) := by
  have t1 : decide (n < 1) = false := by simp; omega
  go_enter Tryz.func24, Tryz.ntmps24
  go_wp2
  go_ret
  exact ⟨rfl, rfl⟩
set_option maxHeartbeats 400000 in
theorem pick_in (rb bb off len cap : Nat) (p n z : Int) (w : World) (n1 : 1 ≤ n) (p0 : 0 ≤ p) (p1 : p ≤ 1000000) (l0 : 0 < (len : Int)) (_lc : len ≤ cap) (hlt : p < (len : Int)) (z0 : 0 ≤ z) (z1 : z ≤ 255) (hne : bb ≠ rb)
    (r0 : w.cell? ⟨rb, 0, none⟩ = some (.slice (some ⟨bb, off, none⟩) len cap)) (r1 : w.cell? ⟨rb, 1, none⟩ = some (.int .i64 p)) (rf : w.frozen? ⟨rb, 1, none⟩ = false)
    (c0 : w.cell? ⟨bb, off + p.toNat, none⟩ = some (.int .u8 z)) :
    Calls Tryz.prog 24 #[.pointer (some ⟨rb, 0, none⟩), .int .i64 n] w fun e w' => e = .returned (.int .i64 (z % n)) ∧ w' = w.setCell ⟨rb, 1, none⟩ (.int .i64 (p + 1)) := by
  have t1 : decide (n < 1) = false := by simp; omega
  have t2 : ((len : Int) == 0) = false := by simp; omega
  go_enter Tryz.func24, Tryz.ntmps24
  go_wp2
  go_ret
  exact ⟨rfl, rfl⟩
set_option maxHeartbeats 400000 in
theorem pick_past (rb bb off len cap : Nat) (p n z1 z2 i1 i2 i3 : Int) (w : World) (n1 : 1 ≤ n) (p0 : 0 ≤ p) (p1 : p ≤ 1000000) (l0 : 0 < (len : Int)) (_lc : len ≤ cap) (hlt : (len : Int) ≤ p) (z10 : 0 ≤ z1) (z11 : z1 ≤ 255) (z20 : 0 ≤ z2) (z21 : z2 ≤ 255) (hne : bb ≠ rb)
    (r0 : w.cell? ⟨rb, 0, none⟩ = some (.slice (some ⟨bb, off, none⟩) len cap)) (r1 : w.cell? ⟨rb, 1, none⟩ = some (.int .i64 p)) (rf : w.frozen? ⟨rb, 1, none⟩ = false)
    (e1 : p % (len : Int) = i1) (e2 : (p * 7 + 3) % (len : Int) = i2) (e3 : p / (len : Int) = i3) (i10 : 0 ≤ i1) (i11 : i1 < (len : Int)) (i20 : 0 ≤ i2) (i21 : i2 < (len : Int)) (i30 : 0 ≤ i3) (i31 : i3 ≤ 1000000)
    (c1 : w.cell? ⟨bb, off + i1.toNat, none⟩ = some (.int .u8 z1)) (c2 : w.cell? ⟨bb, off + i2.toNat, none⟩ = some (.int .u8 z2)) :
    Calls Tryz.prog 24 #[.pointer (some ⟨rb, 0, none⟩), .int .i64 n] w fun e w' => (∃ x : Int, 0 ≤ x ∧ e = .returned (.int .i64 (x.tmod n))) ∧ ∃ k, w' = (w.setCell ⟨rb, 1, none⟩ (.int .i64 (p + 1))).drewN k := by
  have t1 : decide (n < 1) = false := by simp; omega
  have t2 : ((len : Int) == 0) = false := by simp; omega
  have hx : Hid (0 ≤ bits BinOp.xor IntKind.i64 (z1 * 131 + z2 * 1117 + p * 29 + i3 * 53) ((z1 * 131 + z2 * 1117 + p * 29 + i3 * 53) / 64)) := xor_pos _ _ (by omega) (by omega) (by omega) (by omega)
  go_enter Tryz.func24, Tryz.ntmps24
  go_wp2
  go_quiet (fail)
  go_wp2
  go_ret
  exact ⟨⟨_, hx.out, rfl⟩, _, rfl⟩

theorem pick_any (rb : Nat) (p n : Int) (w : World) (h : Rd w rb p) (p0 : 0 ≤ p) (p1 : p ≤ 1000000) (n1 : 1 ≤ n) :
    Calls Tryz.prog 24 #[.pointer (some ⟨rb, 0, none⟩), .int .i64 n] w fun e w' => (∃ v : Int, (0 ≤ v ∧ v < n) ∧ e = .returned (.int .i64 v)) ∧ Rd w' rb (p + 1) ∧ But rb w w' := by
  have hR := h.set (p + 1)
  have hB : But rb w (w.setCell ⟨rb, 1, none⟩ (.int .i64 (p + 1))) := (But.refl _ _).setCell _ _
  obtain ⟨a, len, cap, h0, h1, h2, h3, h4, h5, h6⟩ := h
  rcases h6 with h6 | ⟨bb, off, rfl, q2, q3, q4⟩
  · subst h6
    refine (pick_none rb cap a p n w n1 p0 p1 h1 h2 h3).mono ?_
    rintro e w' ⟨rfl, rfl⟩
    exact ⟨⟨0, ⟨by omega, by omega⟩, rfl⟩, hR, hB⟩
  · by_cases hl : len = 0
    · subst hl
      refine (pick_none rb cap _ p n w n1 p0 p1 h1 h2 h3).mono ?_
      rintro e w' ⟨rfl, rfl⟩
      exact ⟨⟨0, ⟨by omega, by omega⟩, rfl⟩, hR, hB⟩
    by_cases hp : p < (len : Int)
    · obtain ⟨z, z0, z1, hz⟩ := q4 p.toNat (by omega)
      refine (pick_in rb bb off len cap p n z w n1 p0 p1 (by omega) h5 hp z0 z1 (Nat.ne_of_lt q2) h1 h2 h3 hz).mono ?_
      rintro e w' ⟨rfl, rfl⟩
      exact ⟨⟨z % n, ⟨Int.emod_nonneg _ (by omega), Int.emod_lt_of_pos _ (by omega)⟩, rfl⟩, hR, hB⟩
    · have lp : (0 : Int) < (len : Int) := by omega
      have a1 := Int.emod_nonneg p (b := (len : Int)) (by omega)
      have a2 := Int.emod_lt_of_pos p lp
      have a3 := Int.emod_nonneg (p * 7 + 3) (b := (len : Int)) (by omega)
      have a4 := Int.emod_lt_of_pos (p * 7 + 3) lp
      have a5 : 0 ≤ p / (len : Int) := Int.ediv_nonneg p0 (by omega)
      have a6 : p / (len : Int) ≤ p := Int.ediv_le_self _ p0
      obtain ⟨z1, z10, z11, hz1⟩ := q4 (p % (len : Int)).toNat (by omega)
      obtain ⟨z2, z20, z21, hz2⟩ := q4 ((p * 7 + 3) % (len : Int)).toNat (by omega)
      refine (pick_past rb bb off len cap p n z1 z2 _ _ _ w n1 p0 p1 lp h5 (by omega) z10 z11 z20 z21 (Nat.ne_of_lt q2) h1 h2 h3 rfl rfl rfl a1 a2 a3 a4 a5 (by omega) hz1 hz2).mono ?_
      rintro e w' ⟨⟨x, x0, rfl⟩, k, rfl⟩
      exact ⟨⟨x.tmod n, ⟨Int.tmod_nonneg _ x0, Int.tmod_lt_of_pos _ (by omega)⟩, rfl⟩, hR.drewN k, hB.drewN k⟩
end Go.Proofs.YtgoffjpfddmhhaaGreatDoor

/- The reader's methods big, width and ord: a number each, the reader some places further, all other old memory as it was. -/
namespace Go.Proofs.YtgoffjpfddmhhaaGreatDoor
open Go.RowKit


/-- a reader that can still be read k times -/
def Rk (w : World) (rb : Nat) (k : Nat) : Prop := ∃ p : Int, (0 ≤ p ∧ p + k ≤ 1000000) ∧ Rd w rb p
theorem Rk.mono {w : World} {rb k j : Nat} (h : Rk w rb k) (hj : j ≤ k) : Rk w rb j := by
  obtain ⟨p, hp, hr⟩ := h
  exact ⟨p, by omega, hr⟩
theorem Rk.old {w w' : World} {rb k : Nat} (h : Rk w rb k) (b : Below w.heap.size w w') : Rk w' rb k := by
  obtain ⟨p, hp, hr⟩ := h
  exact ⟨p, hp, hr.old b⟩
theorem Rk.alloc {w : World} {rb k : Nat} (h : Rk w rb k) (o : Obj) : Rk (w.alloc o) rb k := h.old ((Below.refl _ _).alloc (Nat.le_refl _) o)
theorem Rk.lt {w : World} {rb k : Nat} (h : Rk w rb k) : rb < w.heap.size := by
  obtain ⟨p, _, a, len, cap, h0, _⟩ := h
  exact h0
theorem Rk.far {w : World} {rb k : Nat} (h : Rk w rb k) (b i : Nat) (hb : rb < b) (v : Value) : Rk (w.setCell ⟨b, i, none⟩ v) rb k := by
  obtain ⟨p, hp, hr⟩ := h
  exact ⟨p, hp, hr.far b i hb v⟩
/-- two cells of another block than the reader's, that can be written -/
def Two (w : World) (b : Nat) : Prop := ∃ x y : Value, w.cell? ⟨b, 0, none⟩ = some x ∧ w.cell? ⟨b, 1, none⟩ = some y ∧ w.frozen? ⟨b, 0, none⟩ = false ∧ w.frozen? ⟨b, 1, none⟩ = false ∧ b < w.heap.size
theorem Two.but {w w' : World} {b rb : Nat} (h : Two w b) (k : But rb w w') (hne : b ≠ rb) : Two w' b := by
  obtain ⟨x, y, h1, h2, h3, h4, h5⟩ := h
  have e := k.block b h5 hne
  exact ⟨x, y, (World.cell?_of_block (w := w) (a := ⟨b, 0, none⟩) e).trans h1, (World.cell?_of_block (w := w) (a := ⟨b, 1, none⟩) e).trans h2, (World.frozen?_of_block (w := w) (a := ⟨b, 0, none⟩) e).trans h3, (World.frozen?_of_block (w := w) (a := ⟨b, 1, none⟩) e).trans h4, Nat.lt_of_lt_of_le h5 k.size⟩
theorem pick_k (rb k : Nat) (n : Int) (w : World) (h : Rk w rb (k + 1)) (n1 : 1 ≤ n) :
    Calls Tryz.prog 24 #[.pointer (some ⟨rb, 0, none⟩), .int .i64 n] w fun e w' => (∃ v : Int, (0 ≤ v ∧ v < n) ∧ e = .returned (.int .i64 v)) ∧ Rk w' rb k ∧ But rb w w' := by
  obtain ⟨p, hp, hr⟩ := h
  refine (pick_any rb p n w hr hp.1 (by omega) n1).mono ?_
  rintro e w' ⟨hv, hr', hb⟩
  exact ⟨hv, ⟨p + 1, by omega, hr'⟩, hb⟩

set_option maxHeartbeats 400000 in
theorem big_k (rb k : Nat) (w : World) (h : Rk w rb (k + 8)) :
    Calls Tryz.prog 53 #[.pointer (some ⟨rb, 0, none⟩)] w fun e w' => (∃ v : Int, (0 ≤ v ∧ v < 18446744073709551616) ∧ e = .returned (.int .u64 v)) ∧ Rk w' rb k ∧ But rb w w' := by
  go_enter Tryz.func53, Tryz.ntmps53
  go_wp2
  go_loopw [3, 4] (fun a b wr => ∃ (j : Nat) (v : Int), j ≤ 8 ∧ Hid (0 ≤ v ∧ v < 18446744073709551616) ∧ a = .int .u64 v ∧ b = .int .i64 j ∧ Rk wr rb (k + (8 - j)) ∧ But rb w wr) (fun _ b _ => 8 - (intOf b).toNat)
  case atStart => exact ⟨0, 0, by omega, ⟨by omega, by omega⟩, rfl, rfl, h, But.refl _ _⟩
  case round =>
    obtain ⟨j, v, hj, hv, rfl, rfl, hR0, hB0⟩ := hrel
    by_cases hlt : j < 8
    · have hR1 : Rk wr rb (k + (8 - (j + 1)) + 1) := by rw [show k + (8 - (j + 1)) + 1 = k + (8 - j) by omega]; exact hR0
      clear hR0
      go_wp2_with (go_at_call 24; refine (pick_k rb _ _ _ (by assumption) (by decide)).mono ?_; rintro e wx ⟨⟨u, ⟨va, vb⟩, rfl⟩, hR, hB⟩)
      go_roundw
      case rel => exact ⟨j + 1, _, by omega, by show _ ∧ _; rw [IntKind.wrap_u64]; omega, rfl, by go_num, hR, But.trans hB0 hB⟩
      case measure => simp [intOf]; omega
    · have e : j = 8 := by omega
      subst e
      go_wp2
      go_ret
      exact ⟨⟨v, hv, rfl⟩, hR0, hB0⟩

set_option maxHeartbeats 400000 in
theorem width_k (rb k : Nat) (w : World) (h : Rk w rb (k + 2)) :
    Calls Tryz.prog 23 #[.pointer (some ⟨rb, 0, none⟩)] w fun e w' => (∃ v : Int, (-64 ≤ v ∧ v ≤ 64) ∧ e = .returned (.int .i64 v)) ∧ Rk w' rb k ∧ But rb w w' := by
  go_enter Tryz.func23, Tryz.ntmps23
  go_wp2_with fail
  refine (pick_k rb _ _ _ h (by decide)).mono ?_
  rintro e w1 ⟨⟨v, ⟨va, vb⟩, rfl⟩, hR, hB⟩
  by_cases c1 : v < 15
  · go_wp2
    go_ret
    exact ⟨⟨32, by omega, rfl⟩, hR.mono (by omega), hB⟩
  by_cases c2 : v < 30
  · go_wp2
    go_ret
    exact ⟨⟨64, by omega, rfl⟩, hR.mono (by omega), hB⟩
  go_wp2_with fail
  have hlt := hR.lt
  refine (pick_k rb k _ _ (hR.alloc _) (by decide)).mono ?_
  rintro e w2 ⟨⟨u, ⟨ua, ub⟩, rfl⟩, hR2, hB2⟩
  have hc : ∀ i, w2.cell? ⟨w1.heap.size, i, none⟩ = (#[Value.int IntKind.i64 0, Value.int IntKind.i64 63, Value.int IntKind.i64 16, Value.int IntKind.i64 (-64)] : Array Value)[i]? := fun i =>
    (World.cell?_of_block (w := w1.alloc (.cells #[Value.int IntKind.i64 0, Value.int IntKind.i64 63, Value.int IntKind.i64 16, Value.int IntKind.i64 (-64)] 3)) (hB2.block w1.heap.size (by simp) (by omega))).trans (by simp)
  have fin : ∀ x : Int, -64 ≤ x → x ≤ 64 → (∃ v : Int, (-64 ≤ v ∧ v ≤ 64) ∧ Ending.returned (.int .i64 x) = .returned (.int .i64 v)) ∧ Rk w2 rb k ∧ But rb w w2 := fun x a b => ⟨⟨x, ⟨a, b⟩, rfl⟩, hR2, (hB.alloc _).trans hB2⟩
  have h4 : u = 0 ∨ u = 1 ∨ u = 2 ∨ u = 3 := by omega
  clear hR hB hR2 hB2 hlt c1 c2 va vb h
  rcases h4 with rfl | rfl | rfl | rfl
  · go_wp2
    go_ret
    exact fin _ (by decide) (by decide)
  · go_wp2
    go_ret
    exact fin _ (by decide) (by decide)
  · go_wp2
    go_ret
    exact fin _ (by decide) (by decide)
  · go_wp2
    go_ret
    exact fin _ (by decide) (by decide)
end Go.Proofs.YtgoffjpfddmhhaaGreatDoor

/- The reader's method ord: a number, the reader some places further, all other old memory as it was. -/
namespace Go.Proofs.YtgoffjpfddmhhaaGreatDoor
open Go.RowKit


set_option maxHeartbeats 2000000 in
theorem ord_32 (rb k : Nat) (w : World) (h : Rk w rb (k + 13)) :
    Calls Tryz.prog 26 #[.pointer (some ⟨rb, 0, none⟩), .int .i64 32] w fun e w' => (∃ v : Int, (-9223372036854775808 ≤ v ∧ v ≤ 9223372036854775807) ∧ e = .returned (.int .i64 v)) ∧ Rk w' rb k ∧ But rb w w' := by
  go_enter Tryz.func26, Tryz.ntmps26
  go_wp2_with (go_at_call 47; refine (sBitTop_32 _).mono ?_; rintro e w0 ⟨rfl, rfl⟩)
  refine (pick_k rb _ _ _ h (by decide)).mono ?_
  rintro e w1 ⟨⟨v0, ⟨va, vb⟩, rfl⟩, hR1, hB1⟩
  have h6 : v0 = 0 ∨ v0 = 1 ∨ v0 = 2 ∨ v0 = 3 ∨ v0 = 4 ∨ 5 ≤ v0 := by omega
  clear h
  rcases h6 with rfl | rfl | rfl | rfl | rfl | h5
  · go_wp2_with (first | (go_at_call 24; refine (pick_k rb _ _ _ (by assumption) (by decide)).mono ?_; rintro e wx ⟨⟨v, ⟨va, vb⟩, rfl⟩, hR, hB⟩) | (go_at_call 53; refine (big_k rb _ _ (by assumption)).mono ?_; rintro e wx ⟨⟨v, ⟨va, vb⟩, rfl⟩, hR, hB⟩))
    all_goals
      go_ret
      refine ⟨⟨_, ?_, rfl⟩, Rk.mono (by assumption) (by omega), (by repeat (first | exact But.refl _ _ | assumption | refine But.drew ?_ | refine But.alloc ?_ _ | refine But.trans ?_ (by assumption)))⟩
      first | omega | (simp only [wrap64]; omega)
  · go_wp2_with (first | (go_at_call 24; refine (pick_k rb _ _ _ (by assumption) (by decide)).mono ?_; rintro e wx ⟨⟨v, ⟨va, vb⟩, rfl⟩, hR, hB⟩) | (go_at_call 53; refine (big_k rb _ _ (by assumption)).mono ?_; rintro e wx ⟨⟨v, ⟨va, vb⟩, rfl⟩, hR, hB⟩))
    all_goals
      go_ret
      refine ⟨⟨_, ?_, rfl⟩, Rk.mono (by assumption) (by omega), (by repeat (first | exact But.refl _ _ | assumption | refine But.drew ?_ | refine But.alloc ?_ _ | refine But.trans ?_ (by assumption)))⟩
      first | omega | (simp only [wrap64]; omega)
  · go_wp2_with (first | (go_at_call 24; refine (pick_k rb _ _ _ (by assumption) (by decide)).mono ?_; rintro e wx ⟨⟨v, ⟨va, vb⟩, rfl⟩, hR, hB⟩) | (go_at_call 53; refine (big_k rb _ _ (by assumption)).mono ?_; rintro e wx ⟨⟨v, ⟨va, vb⟩, rfl⟩, hR, hB⟩))
    all_goals
      go_ret
      refine ⟨⟨_, ?_, rfl⟩, Rk.mono (by assumption) (by omega), (by repeat (first | exact But.refl _ _ | assumption | refine But.drew ?_ | refine But.alloc ?_ _ | refine But.trans ?_ (by assumption)))⟩
      first | omega | (simp only [wrap64]; omega)
  · go_wp2_with (first | (go_at_call 24; refine (pick_k rb _ _ _ (by assumption) (by decide)).mono ?_; rintro e wx ⟨⟨v, ⟨va, vb⟩, rfl⟩, hR, hB⟩) | (go_at_call 53; refine (big_k rb _ _ (by assumption)).mono ?_; rintro e wx ⟨⟨v, ⟨va, vb⟩, rfl⟩, hR, hB⟩))
    all_goals
      go_ret
      refine ⟨⟨_, ?_, rfl⟩, Rk.mono (by assumption) (by omega), (by repeat (first | exact But.refl _ _ | assumption | refine But.drew ?_ | refine But.alloc ?_ _ | refine But.trans ?_ (by assumption)))⟩
      first | omega | (simp only [wrap64]; omega)
  · go_wp2_with (first | (go_at_call 24; refine (pick_k rb _ _ _ (by assumption) (by decide)).mono ?_; rintro e wx ⟨⟨v, ⟨va, vb⟩, rfl⟩, hR, hB⟩) | (go_at_call 53; refine (big_k rb _ _ (by assumption)).mono ?_; rintro e wx ⟨⟨v, ⟨va, vb⟩, rfl⟩, hR, hB⟩))
    all_goals
      go_ret
      refine ⟨⟨_, ?_, rfl⟩, Rk.mono (by assumption) (by omega), (by repeat (first | exact But.refl _ _ | assumption | refine But.drew ?_ | refine But.alloc ?_ _ | refine But.trans ?_ (by assumption)))⟩
      first | omega | (simp only [wrap64]; omega)
  · have f0 : (v0 == 0) = false := by simp; omega
    have f1 : (v0 == 1) = false := by simp; omega
    have f2 : (v0 == 2) = false := by simp; omega
    have f3 : (v0 == 3) = false := by simp; omega
    have f4 : (v0 == 4) = false := by simp; omega
    go_wp2_with (first | (go_at_call 24; refine (pick_k rb _ _ _ (by assumption) (by decide)).mono ?_; rintro e wx ⟨⟨v, ⟨va, vb⟩, rfl⟩, hR, hB⟩) | (go_at_call 53; refine (big_k rb _ _ (by assumption)).mono ?_; rintro e wx ⟨⟨v, ⟨va, vb⟩, rfl⟩, hR, hB⟩))
    all_goals
      go_ret
      refine ⟨⟨_, ?_, rfl⟩, Rk.mono (by assumption) (by omega), (by repeat (first | exact But.refl _ _ | assumption | refine But.drew ?_ | refine But.alloc ?_ _ | refine But.trans ?_ (by assumption)))⟩
      first | omega | (simp only [wrap64]; omega)
end Go.Proofs.YtgoffjpfddmhhaaGreatDoor

/- The reader's method ord: a number, the reader some places further, all other old memory as it was. -/
namespace Go.Proofs.YtgoffjpfddmhhaaGreatDoor
open Go.RowKit


set_option maxHeartbeats 2000000 in
theorem ord_64 (rb k : Nat) (w : World) (h : Rk w rb (k + 13)) :
    Calls Tryz.prog 26 #[.pointer (some ⟨rb, 0, none⟩), .int .i64 64] w fun e w' => (∃ v : Int, (-9223372036854775808 ≤ v ∧ v ≤ 9223372036854775807) ∧ e = .returned (.int .i64 v)) ∧ Rk w' rb k ∧ But rb w w' := by
  go_enter Tryz.func26, Tryz.ntmps26
  go_wp2_with (go_at_call 47; refine (sBitTop_64 _).mono ?_; rintro e w0 ⟨rfl, rfl⟩)
  refine (pick_k rb _ _ _ h (by decide)).mono ?_
  rintro e w1 ⟨⟨v0, ⟨va, vb⟩, rfl⟩, hR1, hB1⟩
  have h6 : v0 = 0 ∨ v0 = 1 ∨ v0 = 2 ∨ v0 = 3 ∨ v0 = 4 ∨ 5 ≤ v0 := by omega
  clear h
  rcases h6 with rfl | rfl | rfl | rfl | rfl | h5
  · go_wp2_with (first | (go_at_call 24; refine (pick_k rb _ _ _ (by assumption) (by decide)).mono ?_; rintro e wx ⟨⟨v, ⟨va, vb⟩, rfl⟩, hR, hB⟩) | (go_at_call 53; refine (big_k rb _ _ (by assumption)).mono ?_; rintro e wx ⟨⟨v, ⟨va, vb⟩, rfl⟩, hR, hB⟩))
    all_goals
      go_ret
      refine ⟨⟨_, ?_, rfl⟩, Rk.mono (by assumption) (by omega), (by repeat (first | exact But.refl _ _ | assumption | refine But.drew ?_ | refine But.alloc ?_ _ | refine But.trans ?_ (by assumption)))⟩
      first | omega | (simp only [wrap64]; omega)
  · go_wp2_with (first | (go_at_call 24; refine (pick_k rb _ _ _ (by assumption) (by decide)).mono ?_; rintro e wx ⟨⟨v, ⟨va, vb⟩, rfl⟩, hR, hB⟩) | (go_at_call 53; refine (big_k rb _ _ (by assumption)).mono ?_; rintro e wx ⟨⟨v, ⟨va, vb⟩, rfl⟩, hR, hB⟩))
    all_goals
      go_ret
      refine ⟨⟨_, ?_, rfl⟩, Rk.mono (by assumption) (by omega), (by repeat (first | exact But.refl _ _ | assumption | refine But.drew ?_ | refine But.alloc ?_ _ | refine But.trans ?_ (by assumption)))⟩
      first | omega | (simp only [wrap64]; omega)
  · go_wp2_with (first | (go_at_call 24; refine (pick_k rb _ _ _ (by assumption) (by decide)).mono ?_; rintro e wx ⟨⟨v, ⟨va, vb⟩, rfl⟩, hR, hB⟩) | (go_at_call 53; refine (big_k rb _ _ (by assumption)).mono ?_; rintro e wx ⟨⟨v, ⟨va, vb⟩, rfl⟩, hR, hB⟩))
    all_goals
      go_ret
      refine ⟨⟨_, ?_, rfl⟩, Rk.mono (by assumption) (by omega), (by repeat (first | exact But.refl _ _ | assumption | refine But.drew ?_ | refine But.alloc ?_ _ | refine But.trans ?_ (by assumption)))⟩
      first | omega | (simp only [wrap64]; omega)
  · go_wp2_with (first | (go_at_call 24; refine (pick_k rb _ _ _ (by assumption) (by decide)).mono ?_; rintro e wx ⟨⟨v, ⟨va, vb⟩, rfl⟩, hR, hB⟩) | (go_at_call 53; refine (big_k rb _ _ (by assumption)).mono ?_; rintro e wx ⟨⟨v, ⟨va, vb⟩, rfl⟩, hR, hB⟩))
    all_goals
      go_ret
      refine ⟨⟨_, ?_, rfl⟩, Rk.mono (by assumption) (by omega), (by repeat (first | exact But.refl _ _ | assumption | refine But.drew ?_ | refine But.alloc ?_ _ | refine But.trans ?_ (by assumption)))⟩
      first | omega | (simp only [wrap64]; omega)
  · go_wp2_with (first | (go_at_call 24; refine (pick_k rb _ _ _ (by assumption) (by decide)).mono ?_; rintro e wx ⟨⟨v, ⟨va, vb⟩, rfl⟩, hR, hB⟩) | (go_at_call 53; refine (big_k rb _ _ (by assumption)).mono ?_; rintro e wx ⟨⟨v, ⟨va, vb⟩, rfl⟩, hR, hB⟩))
    all_goals
      go_ret
      refine ⟨⟨_, ?_, rfl⟩, Rk.mono (by assumption) (by omega), (by repeat (first | exact But.refl _ _ | assumption | refine But.drew ?_ | refine But.alloc ?_ _ | refine But.trans ?_ (by assumption)))⟩
      first | omega | (simp only [wrap64]; omega)
  · have f0 : (v0 == 0) = false := by simp; omega
    have f1 : (v0 == 1) = false := by simp; omega
    have f2 : (v0 == 2) = false := by simp; omega
    have f3 : (v0 == 3) = false := by simp; omega
    have f4 : (v0 == 4) = false := by simp; omega
    go_wp2_with (first | (go_at_call 24; refine (pick_k rb _ _ _ (by assumption) (by decide)).mono ?_; rintro e wx ⟨⟨v, ⟨va, vb⟩, rfl⟩, hR, hB⟩) | (go_at_call 53; refine (big_k rb _ _ (by assumption)).mono ?_; rintro e wx ⟨⟨v, ⟨va, vb⟩, rfl⟩, hR, hB⟩))
    all_goals
      go_ret
      refine ⟨⟨_, ?_, rfl⟩, Rk.mono (by assumption) (by omega), (by repeat (first | exact But.refl _ _ | assumption | refine But.drew ?_ | refine But.alloc ?_ _ | refine But.trans ?_ (by assumption)))⟩
      first | omega | (simp only [wrap64]; omega)
end Go.Proofs.YtgoffjpfddmhhaaGreatDoor

/- The reader's method ord: a number, the reader some places further, all other old memory as it was. -/
namespace Go.Proofs.YtgoffjpfddmhhaaGreatDoor
open Go.RowKit


set_option maxHeartbeats 2000000 in
theorem ord_no (wd : Int) (g1 : wd ≠ 32) (g2 : wd ≠ 64) (rb k : Nat) (w : World) (h : Rk w rb (k + 13)) :
    Calls Tryz.prog 26 #[.pointer (some ⟨rb, 0, none⟩), .int .i64 wd] w fun e w' => (∃ v : Int, (-9223372036854775808 ≤ v ∧ v ≤ 9223372036854775807) ∧ e = .returned (.int .i64 v)) ∧ Rk w' rb k ∧ But rb w w' := by
  have t3 : (wd == 32) = false := by simp; omega
  go_enter Tryz.func26, Tryz.ntmps26
  go_wp2_with (go_at_call 47; refine (sBitTop_no wd _ g1 g2).mono ?_; rintro e w0 ⟨rfl, rfl⟩)
  refine (pick_k rb _ _ _ h (by decide)).mono ?_
  rintro e w1 ⟨⟨v0, ⟨va, vb⟩, rfl⟩, hR1, hB1⟩
  have h6 : v0 = 0 ∨ v0 = 1 ∨ v0 = 2 ∨ v0 = 3 ∨ v0 = 4 ∨ 5 ≤ v0 := by omega
  clear h
  rcases h6 with rfl | rfl | rfl | rfl | rfl | h5
  · go_wp2_with (first | (go_at_call 24; refine (pick_k rb _ _ _ (by assumption) (by decide)).mono ?_; rintro e wx ⟨⟨v, ⟨va, vb⟩, rfl⟩, hR, hB⟩) | (go_at_call 53; refine (big_k rb _ _ (by assumption)).mono ?_; rintro e wx ⟨⟨v, ⟨va, vb⟩, rfl⟩, hR, hB⟩))
    all_goals
      go_ret
      refine ⟨⟨_, ?_, rfl⟩, Rk.mono (by assumption) (by omega), (by repeat (first | exact But.refl _ _ | assumption | refine But.drew ?_ | refine But.alloc ?_ _ | refine But.trans ?_ (by assumption)))⟩
      first | omega | (simp only [wrap64]; omega)
  · go_wp2_with (first | (go_at_call 24; refine (pick_k rb _ _ _ (by assumption) (by decide)).mono ?_; rintro e wx ⟨⟨v, ⟨va, vb⟩, rfl⟩, hR, hB⟩) | (go_at_call 53; refine (big_k rb _ _ (by assumption)).mono ?_; rintro e wx ⟨⟨v, ⟨va, vb⟩, rfl⟩, hR, hB⟩))
    all_goals
      go_ret
      refine ⟨⟨_, ?_, rfl⟩, Rk.mono (by assumption) (by omega), (by repeat (first | exact But.refl _ _ | assumption | refine But.drew ?_ | refine But.alloc ?_ _ | refine But.trans ?_ (by assumption)))⟩
      first | omega | (simp only [wrap64]; omega)
  · go_wp2_with (first | (go_at_call 24; refine (pick_k rb _ _ _ (by assumption) (by decide)).mono ?_; rintro e wx ⟨⟨v, ⟨va, vb⟩, rfl⟩, hR, hB⟩) | (go_at_call 53; refine (big_k rb _ _ (by assumption)).mono ?_; rintro e wx ⟨⟨v, ⟨va, vb⟩, rfl⟩, hR, hB⟩))
    all_goals
      go_ret
      refine ⟨⟨_, ?_, rfl⟩, Rk.mono (by assumption) (by omega), (by repeat (first | exact But.refl _ _ | assumption | refine But.drew ?_ | refine But.alloc ?_ _ | refine But.trans ?_ (by assumption)))⟩
      first | omega | (simp only [wrap64]; omega)
  · go_wp2_with (first | (go_at_call 24; refine (pick_k rb _ _ _ (by assumption) (by decide)).mono ?_; rintro e wx ⟨⟨v, ⟨va, vb⟩, rfl⟩, hR, hB⟩) | (go_at_call 53; refine (big_k rb _ _ (by assumption)).mono ?_; rintro e wx ⟨⟨v, ⟨va, vb⟩, rfl⟩, hR, hB⟩))
    all_goals
      go_ret
      refine ⟨⟨_, ?_, rfl⟩, Rk.mono (by assumption) (by omega), (by repeat (first | exact But.refl _ _ | assumption | refine But.drew ?_ | refine But.alloc ?_ _ | refine But.trans ?_ (by assumption)))⟩
      first | omega | (simp only [wrap64]; omega)
  · go_wp2_with (first | (go_at_call 24; refine (pick_k rb _ _ _ (by assumption) (by decide)).mono ?_; rintro e wx ⟨⟨v, ⟨va, vb⟩, rfl⟩, hR, hB⟩) | (go_at_call 53; refine (big_k rb _ _ (by assumption)).mono ?_; rintro e wx ⟨⟨v, ⟨va, vb⟩, rfl⟩, hR, hB⟩))
    all_goals
      go_ret
      refine ⟨⟨_, ?_, rfl⟩, Rk.mono (by assumption) (by omega), (by repeat (first | exact But.refl _ _ | assumption | refine But.drew ?_ | refine But.alloc ?_ _ | refine But.trans ?_ (by assumption)))⟩
      first | omega | (simp only [wrap64]; omega)
  · have f0 : (v0 == 0) = false := by simp; omega
    have f1 : (v0 == 1) = false := by simp; omega
    have f2 : (v0 == 2) = false := by simp; omega
    have f3 : (v0 == 3) = false := by simp; omega
    have f4 : (v0 == 4) = false := by simp; omega
    go_wp2_with (first | (go_at_call 24; refine (pick_k rb _ _ _ (by assumption) (by decide)).mono ?_; rintro e wx ⟨⟨v, ⟨va, vb⟩, rfl⟩, hR, hB⟩) | (go_at_call 53; refine (big_k rb _ _ (by assumption)).mono ?_; rintro e wx ⟨⟨v, ⟨va, vb⟩, rfl⟩, hR, hB⟩))
    all_goals
      go_ret
      refine ⟨⟨_, ?_, rfl⟩, Rk.mono (by assumption) (by omega), (by repeat (first | exact But.refl _ _ | assumption | refine But.drew ?_ | refine But.alloc ?_ _ | refine But.trans ?_ (by assumption)))⟩
      first | omega | (simp only [wrap64]; omega)
end Go.Proofs.YtgoffjpfddmhhaaGreatDoor

/- Draws of a width and an order number off a code: two numbers, nothing that was there is written. -/
namespace Go.Proofs.YtgoffjpfddmhhaaGreatDoor
open Go.RowKit


/-- a code: a slice of bytes that came in -/
def IsCode (w : World) (a : Option Addr) (len cap : Nat) : Prop :=
  len ≤ cap ∧ (cap : Int) ≤ 9223372036854775807 ∧ (len = 0 ∨ ∃ bb off : Nat, a = some ⟨bb, off, none⟩ ∧ bb < w.heap.size ∧ ∀ i, i < len → ∃ z : Int, 0 ≤ z ∧ z ≤ 255 ∧ w.cell? ⟨bb, off + i, none⟩ = some (.int .u8 z))
theorem IsCode.old {w w' : World} {a : Option Addr} {len cap : Nat} (h : IsCode w a len cap) (b : Below w.heap.size w w') : IsCode w' a len cap := by
  obtain ⟨h1, h2, h3⟩ := h
  refine ⟨h1, h2, ?_⟩
  rcases h3 with h3 | ⟨bb, off, q1, q2, q3⟩
  · exact .inl h3
  · refine .inr ⟨bb, off, q1, Nat.lt_of_lt_of_le q2 b.size, fun i hi => ?_⟩
    obtain ⟨z, z0, z1, hz⟩ := q3 i hi
    exact ⟨z, z0, z1, (b.cell (p := ⟨bb, off + i, none⟩) q2).trans hz⟩

theorem made_rk (w : World) (a : Option Addr) (len len' cap : Nat) (h : IsCode w a len cap) (hl : len' ≤ len) (h2 : len' ≤ 2000) : Rk (w.alloc (.cells #[.slice a len' cap, .int .i64 0] 101)) w.heap.size 1000 := by
  obtain ⟨h1, _, h3⟩ := h
  refine ⟨0, by omega, a, len', cap, by simp, by simp, by simp, by simp, h2, by omega, ?_⟩
  rcases h3 with h3 | ⟨bb, off, q1, q2, q3⟩
  · exact .inl (by omega)
  · refine .inr ⟨bb, off, q1, q2, by simp; omega, fun i hi => ?_⟩
    obtain ⟨z, z0, z1, hz⟩ := q3 i (by omega)
    exact ⟨z, z0, z1, (World.cell?_alloc_lt _ _ _ q2).trans hz⟩

set_option maxHeartbeats 400000 in
theorem open_few (w : World) (a : Option Addr) (len cap : Nat) (h : (len : Int) ≤ 2000) :
    Calls Tryz.prog 22 #[.slice a len cap] w fun e w' => e = .returned (.pointer (some ⟨w.heap.size, 0, none⟩)) ∧ w' = w.alloc (.cells #[.slice a len cap, .int .i64 0] 101) := by
  have t1 : decide ((2000 : Int) < (len : Int)) = false := by simp; omega
  go_enter Tryz.func22, Tryz.ntmps22
  go_wp2
  go_ret
  exact ⟨rfl, rfl⟩
set_option maxHeartbeats 400000 in
theorem open_many (w : World) (bb off len cap : Nat) (h : (2000 : Int) < (len : Int)) (hc : (len : Int) ≤ (cap : Int)) (hm : (cap : Int) ≤ 9223372036854775807) :
    Calls Tryz.prog 22 #[.slice (some ⟨bb, off, none⟩) len cap] w fun e w' => e = .returned (.pointer (some ⟨w.heap.size, 0, none⟩)) ∧ w' = w.alloc (.cells #[.slice (some ⟨bb, off, none⟩) 2000 cap, .int .i64 0] 101) := by
  have t1 : decide ((2000 : Int) < (len : Int)) = true := by simp; omega
  have t2 : (2000 : Int) ≤ (cap : Int) := by omega
  go_enter Tryz.func22, Tryz.ntmps22
  go_wp2
  go_ret
  exact ⟨rfl, rfl⟩
theorem open_k (w : World) (a : Option Addr) (len cap : Nat) (h : IsCode w a len cap) :
    Calls Tryz.prog 22 #[.slice a len cap] w fun e w' => e = .returned (.pointer (some ⟨w.heap.size, 0, none⟩)) ∧ ∃ o, w' = w.alloc o ∧ Rk (w.alloc o) w.heap.size 1000 := by
  by_cases hl : len ≤ 2000
  · refine (open_few w a len cap (by omega)).mono ?_
    rintro e w' ⟨rfl, rfl⟩
    exact ⟨rfl, _, rfl, made_rk w a len len cap h (Nat.le_refl _) hl⟩
  · have h' := h
    obtain ⟨h1, h2, h3⟩ := h'
    rcases h3 with h3 | ⟨bb, off, rfl, q2, q3⟩
    · omega
    · refine (open_many w bb off len cap (by omega) (by omega) h2).mono ?_
      rintro e w' ⟨rfl, rfl⟩
      exact ⟨rfl, _, rfl, made_rk w _ len 2000 cap h (by omega) (by omega)⟩

theorem ord_any (wd : Int) (rb k : Nat) (w : World) (h : Rk w rb (k + 13)) :
    Calls Tryz.prog 26 #[.pointer (some ⟨rb, 0, none⟩), .int .i64 wd] w fun e w' => (∃ v : Int, (-9223372036854775808 ≤ v ∧ v ≤ 9223372036854775807) ∧ e = .returned (.int .i64 v)) ∧ Rk w' rb k ∧ But rb w w' := by
  by_cases c1 : wd = 32
  · subst c1; exact ord_32 rb k w h
  by_cases c2 : wd = 64
  · subst c2; exact ord_64 rb k w h
  exact ord_no wd c1 c2 rb k w h

end Go.Proofs.YtgoffjpfddmhhaaGreatDoor
