/- Lists of numbers without sign as a law is handed them, and its copies of them. No condition. -/
import Derived.Test.YtekbhkklaogmnaaDoorEX
import Derived.Test.YtekbhkklaogmnaaDoorN0
namespace Go.Proofs.YtekbhkklaogmnaaDoor
open Go.ChangeShapes Go.WideShapes Go.ChangeAt Go.RowKit
set_option linter.unusedVariables false
set_option maxRecDepth 100000

theorem URow.made (w : World) (n : Nat) (t : TypeId) : URow (w.alloc (.cells (madeCells #[.int .u64 0] (n * 1)) t)) w.heap.size (List.replicate n 0) := by
  refine ⟨by simp, fun i hi => ?_⟩
  rw [List.length_replicate] at hi
  have eg : (List.replicate n (0 : Int)).getD i 0 = 0 := by simp [List.getD_eq_getElem?_getD, hi]
  rw [eg]
  have e0 : (madeCells #[Value.int IntKind.u64 0] (n * 1))[i]? = some (.int .u64 0) := by
    simp [madeCells, show i < n by omega, Nat.mod_one]
  exact ⟨by simpa using e0, by simp⟩

theorem infoU64 : (Tryd.prog.info? 37).map (fun i => (i.zero, i.size, i.bytes)) = some (some (.int .u64 0), 1, 8) := by kernel_rfl
theorem mkUs (w : World) (n : Nat) (hn : n ≤ 1048577) : (Instr.makeSlice 22 (.int .i64 (n : Int)) (.int .i64 (n : Int))).run Tryd.prog w = .ok (.slice (some ⟨w.heap.size, 0, none⟩) n n) (w.alloc (.cells (madeCells #[.int .u64 0] (n * 1)) 37)) := by
  obtain ⟨i, h1, h2, h3, h4⟩ := info_parts infoU64
  have h := run_make (P := Tryd.prog) w 22 37 i _ Tryd.underlying22 h1 h2 .i64 .i64 n n (by omega) (by omega) (by rw [h4]; omega) (by omega)
  rw [h3] at h
  exact h

set_option maxHeartbeats 1000000 in
theorem lToUs (a : Option Addr) (len cap : Nat) (xs : List Int) (w : World) (hR : InU w a len cap xs) (hl : len ≤ 1048576) :
    Calls Tryd.prog 5 #[.slice a len cap] w fun e w' => (e = .returned (.slice (some ⟨w.heap.size, 0, none⟩) len len) ∧ URow w' w.heap.size xs) ∧ Below w.heap.size w w' := by
  have hmk := mkUs w len (by omega)
  have hr0 := URow.made w len 37
  have hb0 : Below w.heap.size w (w.alloc (.cells (madeCells #[.int .u64 0] (len * 1)) 37)) := (Below.refl _ w).alloc (Nat.le_refl _) _
  generalize w.alloc (.cells (madeCells #[.int .u64 0] (len * 1)) 37) = w0 at *
  have hp := hR.1
  go_enter Tryd.func5, Tryd.ntmps5
  go_wp2
  go_loopw [4] (fun a wr => ∃ (k : Nat) (qs : List Int), k ≤ len ∧ a = .int .i64 k ∧ IUpto k qs xs ∧ URow wr w.heap.size qs ∧ Below w.heap.size w wr) (fun b _ => len - (intOf b).toNat)
  case atStart => exact ⟨0, _, by omega, rfl, IUpto.zero (by simp [hp]), hr0, hb0⟩
  case round =>
    obtain ⟨k, qs, hk, rfl, hu, hr, hb⟩ := hrel
    by_cases hlt : k < len
    · obtain ⟨b, off, x, rfl, hbl, hx, -, c0⟩ := (hR.old hb).at hlt
      obtain ⟨x', -, d0, d2⟩ := hr.at (k := k) (by rw [hu.1]; omega)
      go_wp2
      go_roundw
      case rel =>
        refine ⟨k + 1, _, by omega, by go_num, hu.step (by omega), ?_, ?_⟩
        · rw [hx]; exact hr.set k (by rw [hu.1]; omega) x
        · exact hb.setCell (p := ⟨w.heap.size, k, none⟩) (Nat.le_refl _) _
      case measure => simp [intOf]; omega
    · obtain rfl : k = len := by omega
      go_wp2
      go_ret
      subst hp
      exact ⟨⟨rfl, by rw [← hu.all]; exact hr⟩, hb⟩
section
variable {H : Type} {enc : TypeId × Value → H} {w : World} {base : Nat}
set_option maxRecDepth 100000 in
theorem open_u64S {r : Reach} {b0 : Nat} {v : Value} {d : DataW H} {p : List MemPlace} (hv : Value.okWide Tryd.prog w r b0 22 v) (h : DataW.Trod enc Tryd.prog w base (fun _ => true) true 22 v d p) :
    ∃ (a : Option Addr) (len cap : Nat) (xs : List Int), v = .slice a len cap ∧ InU w a len cap xs := by
  obtain ⟨a, len, cap, rfl⟩ := okWide_slice Tryd.underlying22 hv
  obtain ⟨fuel, hf⟩ := h
  rcases open_ints Tryd.underlying22 Tryd.underlying37 (by kernel_rfl) hf with ⟨hcs, _⟩ | ⟨x, l, c, zs, hcs, _, hl, hm, hz, _, hcell, hwz⟩
  · simp [Value.cells] at hcs
    obtain ⟨rfl, rfl, rfl⟩ := hcs
    exact ⟨none, 0, 0, [], rfl, rfl, Nat.le_refl _, Nat.zero_le _, fun x hx => absurd hx (by simp), .inl rfl⟩
  · simp [Value.cells] at hcs
    obtain ⟨rfl, rfl, rfl⟩ := hcs
    have hzl : zs.length = cap := by simpa using hz
    refine ⟨some x, len, cap, zs.take len, rfl, by simp; omega, hl, hm, ?_, ?_⟩
    · intro z hzz
      exact bounds_u64 (hwz z (List.mem_of_mem_take hzz))
    by_cases h0 : len = 0
    · exact .inl h0
    obtain ⟨b, off, spot⟩ := x
    have hc := hcell 0 (by omega)
    have hspot : spot = none := by simpa [Addr.add] using World.cell?_spot hc
    subst hspot
    have hb := World.block_lt_of_cell? w _ hc
    refine .inr ⟨b, off, rfl, by simpa [Addr.add] using hb, fun i hi => ?_⟩
    have hci := hcell i (by omega)
    have e : (⟨b, off, none⟩ : Addr).add i = ⟨b, off + i, none⟩ := by
      by_cases h : i = 0
      · subst h; simp [Addr.add]
      · simp [Addr.add, h]
    rw [e] at hci
    have eg : (zs.take len).getD i 0 = zs.getD i 0 := by simp [List.getD_eq_getElem?_getD, hi]
    rw [eg]
    exact hci
end
theorem toUsO (a : Option Addr) (cap : Nat) (xs : List Int) (w : World) (hR : InU w a xs.length cap xs) (hl : xs.length ≤ 1048576) :
    Calls Tryd.prog 5 #[.slice a xs.length cap] w fun e w' => (∃ av cv, e = .returned (.slice av xs.length cv) ∧ OU w' w.heap.size av cv xs) ∧ Below w.heap.size w w' := by
  refine (lToUs a _ cap xs w hR hl).mono ?_
  rintro e w' ⟨⟨he, hr⟩, h⟩
  exact ⟨⟨_, _, he, hR.2.2.2.1, Nat.le_refl _, Nat.le_trans hR.2.1 hR.2.2.1, .inr ⟨_, rfl, Nat.le_refl _, hr⟩⟩, h⟩
theorem InU.kept' {w w' : World} {a : Option Addr} {len cap : Nat} {xs : List Int} {row : Option Nat} (h : InU w a len cap xs) (g : w.grownBy w' row) (hne : 0 < len → ∀ q, a = some q → some q.block ≠ row) : InU w' a len cap xs := h.kept g hne
end Go.Proofs.YtekbhkklaogmnaaDoor
