/- The specification's digits from a place on, digits of nought below a number, powers of two. Conditions: digits. -/
import Derived.Test.YtpamnpdigoikoaaDoorNV
namespace Go.Proofs.YtpamnpdigoikoaaDoor
open Go.RowKit
set_option linter.unusedVariables false
set_option maxRecDepth 100000

theorem igrows_made (w : World) (n : Nat) (hn : n ≤ 1048577) : IGrows (w.alloc (.cells (madeCells #[.int .i64 0] (n * 1)) 3)) w.heap.size (.slice (some ⟨w.heap.size, 0, none⟩) n n) (List.replicate n 0) := by
  unfold IGrows
  rw [List.length_replicate]
  refine ⟨by simp [ints], .inr ⟨w.heap.size, n, _, rfl, Nat.le_refl _, World.alloc_heap_new _ _, Nat.le_refl _, by unfold maxLen; omega, size_madeCells _ _, ?_⟩⟩
  apply List.ext_getElem?
  intro i
  by_cases h : i < n
  · have e0 : (madeCells #[Value.int IntKind.i64 0] (n * 1))[i]? = some (.int .i64 0) := by
      simp [madeCells, show i < n by omega, Nat.mod_one]
    rw [List.getElem?_take_of_lt (by omega), Array.getElem?_toList, e0]
    simp [ints, h]
  · rw [List.getElem?_eq_none (by rw [List.length_take]; omega), List.getElem?_eq_none (by simp [ints]; omega)]
theorem drop_take_snoc {xs : List Int} {f j : Nat} (h : j < xs.length) (hf : f ≤ j) : (xs.take (j + 1)).drop f = (xs.take j).drop f ++ [xs.getD j 0] := by
  rw [take_snoc h, List.drop_append_of_le_length (by rw [List.length_take]; omega)]
set_option maxHeartbeats 2000000 in
theorem sTop (a : Option Addr) (len cap : Nat) (xs : List Int) (f : Nat) (w : World) (hR : InI w a len cap xs) (hl : len ≤ 1048576) (hf : f ≤ len) :
    Calls Tryd.prog 101 #[.slice a len cap, .int .i64 (f : Int)] w fun e w' => (∃ av cv, e = .returned (.slice av (xs.drop f).length cv) ∧ OI w' w.heap.size av cv (xs.drop f)) ∧ Below w.heap.size w w' := by
  obtain ⟨i0, hi, hz0, hz1, hz2⟩ := info_parts infoInt
  have hp := hR.1
  have hfin : Hid ((xs.take len).drop f = xs.drop f) := by show _ = _; rw [List.take_of_length_le (by omega)]
  have hfit : Hid (IFits (xs.drop f)) := fun x hx => hR.2.2.2.1 x (List.mem_of_mem_drop hx)
  generalize xs.drop f = ql at *
  go_enter Tryd.func101, Tryd.ntmps101
  go_wp2
  go_loopw [5, 6] (fun o i wr => ∃ (j : Nat), f ≤ j ∧ j ≤ len ∧ i = .int .i64 j ∧ IGrows wr w.heap.size o ((xs.take j).drop f) ∧ Below w.heap.size w wr) (fun _ i _ => len - (intOf i).toNat)
  case atStart => exact ⟨f, by omega, hf, rfl, by rw [List.drop_of_length_le (by rw [List.length_take]; omega)]; exact IGrows.nil _ _, Below.refl _ _⟩
  case round =>
    obtain ⟨j, hj1, hj, rfl, G, hb⟩ := hrel
    by_cases hlt : j < len
    · obtain ⟨b, off, y, rfl, -, hy, -, c0⟩ := (hR.old hb).at (k := j) hlt
      have hjl : ((xs.take j).drop f).length = j - f := by rw [List.length_drop, List.length_take]; omega
      have hsn := hd (drop_take_snoc (xs := xs) (f := f) (j := j) (by omega) hj1)
      rw [hy] at hsn
      have G2 := G.alloc (.cells #[.int .i64 y] 3)
      have B2 : Below w.heap.size w (wr.alloc (.cells #[.int .i64 y] 3)) := old_alloc hb _
      have cw := cells_one wr wr.heap.size rfl (.int .i64 y) 3
      have hsz := hb.size
      have hjl' := hd hjl
      clear hjl
      go_wp2_with (at_builtin; refine wpList_append_own _ rfl _ _ 23 rfl w.heap.size 3 i0 _ 1 8 Tryd.underlying23 hi hz0 hz1 hz2 rfl (by decide) _ _ _ rfl G2 ⟨wr.heap.size, 0, none⟩ 1 1 [.int .i64 y] rfl rfl cw (by simp [Value.oneCell']) (by rw [hjl'.out]; unfold maxLen; omega) (by rw [hjl'.out]; omega) (by simp; omega) ?_; intro v' w5 hown hgrow _)
      go_roundw
      case rel =>
        refine ⟨j + 1, by omega, by omega, by go_num, ?_, ?_⟩
        · rw [hsn.out]
          unfold IGrows
          rw [ints_snoc, List.length_append]
          exact hown
        · exact B2.grown hgrow B2.size (fun c e => by have := (World.ownsRow.lt G2 c e).1; omega)
      case measure => simp [intOf]; omega
    · obtain rfl : j = len := by omega
      rw [hfin.out] at G
      obtain ⟨av, cv, rfl, ho⟩ := G.oi hfit.out
      go_wp2
      go_ret
      exact ⟨⟨_, _, rfl, ho⟩, hb⟩
theorem val_zeros (n : Nat) : val (List.replicate n 0) = 0 := digs_zero (fun i hi => by rw [List.length_replicate] at hi; simp [List.getD_eq_getElem?_getD, hi])
theorem shl_canon {xs : List Int} (n : Nat) (hx : digs xs) (tx : topped xs) (h0 : 0 < xs.length) : List.replicate n 0 ++ xs = natL (val xs * 65536 ^ n) := by
  have e : val xs * 65536 ^ n = val (List.replicate n 0 ++ xs) := by rw [val_append, val_zeros, List.length_replicate, Nat.mul_comm]; omega
  rw [e]
  refine (natL_canon (digs_append.2 ⟨digs_zeros _, hx⟩) (.inr ?_)).symm
  have := tx.resolve_left (by omega)
  rw [List.length_append, List.length_replicate]
  simpa [List.getD_eq_getElem?_getD, List.getElem?_append, show ¬ (n + xs.length - 1 < n) by omega, show n + xs.length - 1 - n = xs.length - 1 by omega] using this
set_option maxHeartbeats 2000000 in
theorem sShl (a : Option Addr) (len cap : Nat) (xs : List Int) (n : Nat) (w : World) (hR : InI w a len cap xs) (hx : digs xs) (tx : topped xs) (hl : len ≤ 524288) (hn : n ≤ 524288) :
    Calls Tryd.prog 102 #[.slice a len cap, .int .i64 (n : Int)] w fun e w' => (∃ av cv, e = .returned (.slice av (natL (val xs * 65536 ^ n)).length cv) ∧ OI w' w.heap.size av cv (natL (val xs * 65536 ^ n))) ∧ Below w.heap.size w w' := by
  obtain ⟨i0, hi, hz0, hz1, hz2⟩ := info_parts infoInt
  have hp := hR.1
  by_cases h0 : len = 0
  · subst h0
    have : xs = [] := List.length_eq_zero_iff.1 hp
    subst this
    have e : natL (val [] * 65536 ^ n) = [] := by rw [val_nil, Nat.zero_mul, natL_zero]
    rw [e]
    go_enter Tryd.func102, Tryd.ntmps102
    go_wp2
    go_ret
    exact ⟨⟨_, _, rfl, OI.none _ _⟩, Below.refl _ _⟩
  have hfin := hd (shl_canon n hx tx (by omega))
  have hfit := hd (natL_fits (val xs * 65536 ^ n))
  generalize natL (val xs * 65536 ^ n) = ql at *
  have hmk := mkInts w n (by omega)
  have hg0 := igrows_made w n (by omega)
  have hb0 : Below w.heap.size w (w.alloc (.cells (madeCells #[.int .i64 0] (n * 1)) 3)) := (Below.refl _ w).alloc (Nat.le_refl _) _
  generalize w.alloc (.cells (madeCells #[.int .i64 0] (n * 1)) 3) = w0 at *
  have h0' : ((len : Int) == 0) = false := by simp; omega
  go_enter Tryd.func102, Tryd.ntmps102
  go_wp2
  go_loopw [5, 6] (fun o i wr => ∃ (j : Nat), j ≤ len ∧ i = .int .i64 j ∧ IGrows wr w.heap.size o (List.replicate n 0 ++ xs.take j) ∧ Below w.heap.size w wr) (fun _ i _ => len - (intOf i).toNat)
  case atStart => exact ⟨0, by omega, rfl, by rw [List.take_zero, List.append_nil]; exact hg0, hb0⟩
  case round =>
    clear hg0 hb0 hmk
    obtain ⟨j, hj, rfl, G, hb⟩ := hrel
    by_cases hlt : j < len
    · obtain ⟨b, off, y, rfl, -, hy, -, c0⟩ := (hR.old hb).at (k := j) hlt
      have hjl' : Hid ((List.replicate n (0 : Int) ++ xs.take j).length = n + j) := by show _ = _; rw [List.length_append, List.length_replicate, List.length_take]; omega
      have hsn := hd (take_snoc (xs := xs) (k := j) (by omega))
      rw [hy] at hsn
      have G2 := G.alloc (.cells #[.int .i64 y] 3)
      have B2 : Below w.heap.size w (wr.alloc (.cells #[.int .i64 y] 3)) := old_alloc hb _
      have cw := cells_one wr wr.heap.size rfl (.int .i64 y) 3
      have hsz := hb.size
      go_wp2_with (at_builtin; refine wpList_append_own _ rfl _ _ 23 rfl w.heap.size 3 i0 _ 1 8 Tryd.underlying23 hi hz0 hz1 hz2 rfl (by decide) _ _ _ rfl G2 ⟨wr.heap.size, 0, none⟩ 1 1 [.int .i64 y] rfl rfl cw (by simp [Value.oneCell']) (by rw [hjl'.out]; unfold maxLen; omega) (by rw [hjl'.out]; omega) (by simp; omega) ?_; intro v' w5 hown hgrow _)
      go_roundw
      case rel =>
        refine ⟨j + 1, by omega, by go_num, ?_, ?_⟩
        · rw [hsn.out, ← List.append_assoc]
          unfold IGrows
          rw [ints_snoc, List.length_append]
          exact hown
        · exact B2.grown hgrow B2.size (fun c e => by have := (World.ownsRow.lt G2 c e).1; omega)
      case measure => simp [intOf]; omega
    · obtain rfl : j = len := by omega
      rw [List.take_of_length_le (by omega), hfin.out] at G
      obtain ⟨av, cv, rfl, ho⟩ := G.oi hfit.out
      go_wp2
      go_ret
      exact ⟨⟨_, _, rfl, ho⟩, hb⟩
end Go.Proofs.YtpamnpdigoikoaaDoor
