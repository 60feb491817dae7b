/- Contracts of the library's TrailingZeros64 and Len64; the first reads its table, which must hold what the text lays. The world is as it was. -/
import Derived.Test.YtljmmaaaeojbpaaDoorZ1
import Derived.Test.YtljmmaaaeojbpaaDoorW1
import Derived.Lib.Strings
import Derived.Lib.Slices
import Derived.Lib.Small
import Derived.Lib.Walk
import Derived.Lib.BitFns
namespace Go.Proofs.YtljmmaaaeojbpaaDoor
open Go.RowKit
/-- the library's table, as its text lays it -/
def Tab (w : World) : Prop := 0 < w.heap.size ∧ ∀ i, i < 64 → w.cell? ⟨0, i, none⟩ = some (.int .u8 (tab64.getD i 0))
theorem Tab.old {w w' : World} (h : Tab w) (b : Below w.heap.size w w') : Tab w' :=
  ⟨Nat.lt_of_lt_of_le h.1 b.size, fun i hi => (b.cell (p := ⟨0, i, none⟩) h.1).trans (h.2 i hi)⟩

set_option maxHeartbeats 400000 in
theorem ntz_core (x m y i k : Int) (w : World) (h0 : (x == 0) = false) 
    (r1 : bits .and .u64 x (IntKind.u64.wrap (-x)) = m) (r2 : IntKind.u64.wrap (m * 285870213051353865) = y) (r3 : y / 288230376151711744 = i) (i0 : 0 ≤ i) (i1 : i < 64) (k0 : 0 ≤ k) (k1 : k ≤ 64)
    (c : w.cell? ⟨0, i.toNat, none⟩ = some (.int .u8 k)) :
    Calls Tryd.prog 30 #[.int .u64 x] w fun e w' => e = .returned (.int .i64 k) ∧ w' = w := by
  go_enter Tryd.func30, Tryd.ntmps30
  go_wp2
  go_ret
  exact ⟨rfl, rfl⟩

theorem ntz_any (o z : Nat) (w : World) (ho : o % 2 = 1) (hx : o * 2 ^ z < 2 ^ 64) (hT : Tab w) :
    Calls Tryd.prog 30 #[.int .u64 ((o * 2 ^ z : Nat) : Int)] w fun e w' => e = .returned (.int .i64 (z : Int)) ∧ w' = w := by
  have hz : z < 64 := by
    apply Nat.lt_of_not_le
    intro h
    have : 2 ^ 64 ≤ 2 ^ z := Nat.pow_le_pow_right (by omega) h
    have : 2 ^ z ≤ o * 2 ^ z := Nat.le_mul_of_pos_left _ (by omega)
    omega
  have hlow := low_bit o z ho hx
  have h1 := tab64_lt ⟨z, hz⟩
  have h2 := tab64_at ⟨z, hz⟩
  simp only [] at h1 h2
  have hc := hT.2 _ h1
  rw [h2] at hc
  have hpos : 0 < o * 2 ^ z := Nat.mul_pos (by omega) (Nat.two_pow_pos z)
  have hp := Nat.two_pow_pos z
  generalize hX : o * 2 ^ z = X at *
  have hm : bits .and .u64 (X : Int) (IntKind.u64.wrap (-(X : Int))) = ((2 ^ z : Nat) : Int) := by
    have e1 : IntKind.u64.wrap (-(X : Int)) = ((2 ^ 64 - X : Nat) : Int) := by rw [IntKind.wrap_u64]; omega
    rw [e1, u64_and_nat X (2 ^ 64 - X) (by omega) (by omega), hlow]
  generalize 2 ^ z = Z at *
  refine ntz_core (X : Int) (Z : Int) ((Z * 285870213051353865 % 18446744073709551616 : Nat) : Int) ((Z * 285870213051353865 % 18446744073709551616 / 288230376151711744 : Nat) : Int) z w (by simp; omega) hm ?_ ?_ (by omega) (by omega) (by omega) (by omega) ?_
  · rw [IntKind.wrap_u64]; omega
  · omega
  · rw [Int.toNat_natCast]; exact hc

theorem ba_getD (s : ByteArray) (b : Nat) (h : b < s.size) : s.data.getD b 0 = s[b] := by
  rw [Array.getD_eq_getD_getElem?, Array.getElem?_eq_getElem h]; rfl
theorem l8size : Lib.len8tab.size = 256 := by decide +kernel
theorem l8_all : ∀ n : Fin 256, (Lib.len8tab.data.getD n.val 0).toNat = Lib.bitLen n.val := by decide +kernel
theorem l8 (b : Nat) (h : b < Lib.len8tab.size) : (Lib.len8tab[b]'h).toNat = Lib.bitLen b := by
  have h' : b < 256 := by rw [l8size] at h; exact h
  have e := l8_all ⟨b, h'⟩
  simp only [] at e
  rw [ba_getD Lib.len8tab b h] at e
  exact e
theorem len_fin (x : Int) (d v : Nat) (k : Int) (hk : 0 ≤ k) (hk2 : k ≤ 56) (hv : v = Lib.bitLen d) (hd : d ≤ 255) (hs : (Lib.bitLen x.toNat : Int) = k + Lib.bitLen d) : wrap64 (k + wrap64 (v : Int)) = (Lib.bitLen x.toNat : Int) := by
  have l := Lib.bitLen_le8 ⟨d, by omega⟩
  simp only [] at l
  rw [hs, hv]
  generalize Lib.bitLen d = q at *
  simp only [wrap64]
  omega
theorem bitLen_log2 (x : Nat) (h0 : x ≠ 0) (h : x < 2 ^ 64) : Lib.bitLen x = x.log2 + 1 := by
  induction x using Nat.strongRecOn with
  | _ x ih =>
    rw [Lib.bitLen_half x h0 h]
    by_cases h1 : x = 1
    · subst h1; decide
    · rw [ih (x / 2) (by omega) (by omega) (by omega), Nat.log2_def x, if_pos (by omega)]
      omega

set_option maxHeartbeats 400000 in
set_option maxRecDepth 100000 in
theorem len64_0 (x : Int) (w : World) (h0 : 0 ≤ x) (h1 : x < 256) :
    Calls Tryd.prog 31 #[.int .u64 x] w fun e w' => e = .returned (.int .i64 (Lib.bitLen x.toNat)) ∧ w' = w := by
  have hb : x < (Lib.len8tab.size : Int) := by rw [l8size]; omega
  have hb0 : 0 ≤ x := by omega
  have fin : Hid (∀ h, wrap64 (0 + wrap64 (((Lib.len8tab[(x).toNat]'h).toNat : Nat) : Int)) = (Lib.bitLen x.toNat : Int)) := fun h => len_fin x _ _ 0 (by omega) (by omega) (l8 _ h) (by omega) (by simp)
  
  go_enter Tryd.func31, Tryd.ntmps31
  go_wp2
  go_ret
  exact ⟨ret_int ((by have f := fin.out (by omega); rw [Int.zero_add] at f; exact f)), rfl⟩

set_option maxHeartbeats 400000 in
set_option maxRecDepth 100000 in
theorem len64_1 (x : Int) (w : World) (h0 : 256 ≤ x) (h1 : x < 65536) :
    Calls Tryd.prog 31 #[.int .u64 x] w fun e w' => e = .returned (.int .i64 (Lib.bitLen x.toNat)) ∧ w' = w := by
  have s := Lib.bitLen_shift8 x.toNat (by omega) (by omega)
  have e : x.toNat / 256 = (x / 256).toNat := by omega
  have hb : x / 256 < (Lib.len8tab.size : Int) := by rw [l8size]; omega
  have hb0 : 0 ≤ x / 256 := by omega
  have fin : Hid (∀ h, wrap64 (8 + wrap64 (((Lib.len8tab[(x / 256).toNat]'h).toNat : Nat) : Int)) = (Lib.bitLen x.toNat : Int)) := fun h => len_fin x _ _ 8 (by omega) (by omega) (l8 _ h) (by omega) (by rw [s, e]; rfl)
  clear s e
  go_enter Tryd.func31, Tryd.ntmps31
  go_wp2
  go_ret
  exact ⟨ret_int (fin.out _), rfl⟩

set_option maxHeartbeats 400000 in
set_option maxRecDepth 100000 in
theorem len64_2 (x : Int) (w : World) (h0 : 65536 ≤ x) (h1 : x < 16777216) :
    Calls Tryd.prog 31 #[.int .u64 x] w fun e w' => e = .returned (.int .i64 (Lib.bitLen x.toNat)) ∧ w' = w := by
  have s := Lib.bitLen_shift16 x.toNat (by omega) (by omega)
  have e : x.toNat / 65536 = (x / 65536).toNat := by omega
  have hb : x / 65536 < (Lib.len8tab.size : Int) := by rw [l8size]; omega
  have hb0 : 0 ≤ x / 65536 := by omega
  have fin : Hid (∀ h, wrap64 (16 + wrap64 (((Lib.len8tab[(x / 65536).toNat]'h).toNat : Nat) : Int)) = (Lib.bitLen x.toNat : Int)) := fun h => len_fin x _ _ 16 (by omega) (by omega) (l8 _ h) (by omega) (by rw [s, e]; rfl)
  clear s e
  go_enter Tryd.func31, Tryd.ntmps31
  go_wp2
  go_ret
  exact ⟨ret_int (fin.out _), rfl⟩

set_option maxHeartbeats 400000 in
set_option maxRecDepth 100000 in
theorem len64_3 (x : Int) (w : World) (h0 : 16777216 ≤ x) (h1 : x < 4294967296) :
    Calls Tryd.prog 31 #[.int .u64 x] w fun e w' => e = .returned (.int .i64 (Lib.bitLen x.toNat)) ∧ w' = w := by
  have s := Lib.bitLen_shift24 x.toNat (by omega) (by omega)
  have e : x.toNat / 16777216 = (x / 65536 / 256).toNat := by omega
  have hb : x / 65536 / 256 < (Lib.len8tab.size : Int) := by rw [l8size]; omega
  have hb0 : 0 ≤ x / 65536 / 256 := by omega
  have fin : Hid (∀ h, wrap64 (24 + wrap64 (((Lib.len8tab[(x / 65536 / 256).toNat]'h).toNat : Nat) : Int)) = (Lib.bitLen x.toNat : Int)) := fun h => len_fin x _ _ 24 (by omega) (by omega) (l8 _ h) (by omega) (by rw [s, e]; rfl)
  clear s e
  go_enter Tryd.func31, Tryd.ntmps31
  go_wp2
  go_ret
  exact ⟨ret_int (fin.out _), rfl⟩

set_option maxHeartbeats 400000 in
set_option maxRecDepth 100000 in
theorem len64_4 (x : Int) (w : World) (h0 : 4294967296 ≤ x) (h1 : x < 1099511627776) :
    Calls Tryd.prog 31 #[.int .u64 x] w fun e w' => e = .returned (.int .i64 (Lib.bitLen x.toNat)) ∧ w' = w := by
  have s := Lib.bitLen_shift32 x.toNat (by omega) (by omega)
  have e : x.toNat / 4294967296 = (x / 4294967296).toNat := by omega
  have hb : x / 4294967296 < (Lib.len8tab.size : Int) := by rw [l8size]; omega
  have hb0 : 0 ≤ x / 4294967296 := by omega
  have fin : Hid (∀ h, wrap64 (32 + wrap64 (((Lib.len8tab[(x / 4294967296).toNat]'h).toNat : Nat) : Int)) = (Lib.bitLen x.toNat : Int)) := fun h => len_fin x _ _ 32 (by omega) (by omega) (l8 _ h) (by omega) (by rw [s, e]; rfl)
  clear s e
  go_enter Tryd.func31, Tryd.ntmps31
  go_wp2
  go_ret
  exact ⟨ret_int (fin.out _), rfl⟩

set_option maxHeartbeats 400000 in
set_option maxRecDepth 100000 in
theorem len64_5 (x : Int) (w : World) (h0 : 1099511627776 ≤ x) (h1 : x < 281474976710656) :
    Calls Tryd.prog 31 #[.int .u64 x] w fun e w' => e = .returned (.int .i64 (Lib.bitLen x.toNat)) ∧ w' = w := by
  have s := Lib.bitLen_shift40 x.toNat (by omega) (by omega)
  have e : x.toNat / 1099511627776 = (x / 4294967296 / 256).toNat := by omega
  have hb : x / 4294967296 / 256 < (Lib.len8tab.size : Int) := by rw [l8size]; omega
  have hb0 : 0 ≤ x / 4294967296 / 256 := by omega
  have fin : Hid (∀ h, wrap64 (40 + wrap64 (((Lib.len8tab[(x / 4294967296 / 256).toNat]'h).toNat : Nat) : Int)) = (Lib.bitLen x.toNat : Int)) := fun h => len_fin x _ _ 40 (by omega) (by omega) (l8 _ h) (by omega) (by rw [s, e]; rfl)
  clear s e
  go_enter Tryd.func31, Tryd.ntmps31
  go_wp2
  go_ret
  exact ⟨ret_int (fin.out _), rfl⟩

set_option maxHeartbeats 400000 in
set_option maxRecDepth 100000 in
theorem len64_6 (x : Int) (w : World) (h0 : 281474976710656 ≤ x) (h1 : x < 72057594037927936) :
    Calls Tryd.prog 31 #[.int .u64 x] w fun e w' => e = .returned (.int .i64 (Lib.bitLen x.toNat)) ∧ w' = w := by
  have s := Lib.bitLen_shift48 x.toNat (by omega) (by omega)
  have e : x.toNat / 281474976710656 = (x / 4294967296 / 65536).toNat := by omega
  have hb : x / 4294967296 / 65536 < (Lib.len8tab.size : Int) := by rw [l8size]; omega
  have hb0 : 0 ≤ x / 4294967296 / 65536 := by omega
  have fin : Hid (∀ h, wrap64 (48 + wrap64 (((Lib.len8tab[(x / 4294967296 / 65536).toNat]'h).toNat : Nat) : Int)) = (Lib.bitLen x.toNat : Int)) := fun h => len_fin x _ _ 48 (by omega) (by omega) (l8 _ h) (by omega) (by rw [s, e]; rfl)
  clear s e
  go_enter Tryd.func31, Tryd.ntmps31
  go_wp2
  go_ret
  exact ⟨ret_int (fin.out _), rfl⟩

set_option maxHeartbeats 400000 in
set_option maxRecDepth 100000 in
theorem len64_7 (x : Int) (w : World) (h0 : 72057594037927936 ≤ x) (h1 : x < 18446744073709551616) :
    Calls Tryd.prog 31 #[.int .u64 x] w fun e w' => e = .returned (.int .i64 (Lib.bitLen x.toNat)) ∧ w' = w := by
  have s := Lib.bitLen_shift56 x.toNat (by omega) (by omega)
  have e : x.toNat / 72057594037927936 = (x / 4294967296 / 65536 / 256).toNat := by omega
  have hb : x / 4294967296 / 65536 / 256 < (Lib.len8tab.size : Int) := by rw [l8size]; omega
  have hb0 : 0 ≤ x / 4294967296 / 65536 / 256 := by omega
  have fin : Hid (∀ h, wrap64 (56 + wrap64 (((Lib.len8tab[(x / 4294967296 / 65536 / 256).toNat]'h).toNat : Nat) : Int)) = (Lib.bitLen x.toNat : Int)) := fun h => len_fin x _ _ 56 (by omega) (by omega) (l8 _ h) (by omega) (by rw [s, e]; rfl)
  clear s e
  go_enter Tryd.func31, Tryd.ntmps31
  go_wp2
  go_ret
  exact ⟨ret_int (fin.out _), rfl⟩

theorem len64_any (o : Nat) (w : World) (h0 : o ≠ 0) (h : o < 2 ^ 64) :
    Calls Tryd.prog 31 #[.int .u64 (o : Int)] w fun e w' => e = .returned (.int .i64 ((o.log2 + 1 : Nat) : Int)) ∧ w' = w := by
  have key : Calls Tryd.prog 31 #[.int .u64 (o : Int)] w fun e w' => e = .returned (.int .i64 (Lib.bitLen (o : Int).toNat)) ∧ w' = w := by
    by_cases c0 : o < 256
    · exact len64_0 o w (by omega) (by omega)
    by_cases c1 : o < 65536
    · exact len64_1 o w (by omega) (by omega)
    by_cases c2 : o < 16777216
    · exact len64_2 o w (by omega) (by omega)
    by_cases c3 : o < 4294967296
    · exact len64_3 o w (by omega) (by omega)
    by_cases c4 : o < 1099511627776
    · exact len64_4 o w (by omega) (by omega)
    by_cases c5 : o < 281474976710656
    · exact len64_5 o w (by omega) (by omega)
    by_cases c6 : o < 72057594037927936
    · exact len64_6 o w (by omega) (by omega)
    exact len64_7 o w (by omega) (by omega)
  rw [Int.toNat_natCast, bitLen_log2 o h0 h] at key
  exact key
end Go.Proofs.YtljmmaaaeojbpaaDoor
