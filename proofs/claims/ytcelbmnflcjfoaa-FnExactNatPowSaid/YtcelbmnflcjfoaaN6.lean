/- A sum of multiples of two numbers, by the program: its digits, in memory of its own. Conditions: what comes out is not below 0, and has one digit more than the longer one at most. -/
import Derived.Test.YtcelbmnflcjfoaaN5
namespace Go.Proofs.Ytcelbmnflcjfoaa
open Go.RowKit
set_option linter.unusedVariables false

theorem infoIntD : (Try.prog.info? 3).map (fun i => (i.zero, i.size, i.bytes)) = some (some (.int .i64 0), 1, 8) := by kernel_rfl
theorem mkDigs (w : World) (n : Nat) (hn : n ≤ 2097154) : (Instr.makeSlice 42 (.int .i64 (n : Int)) (.int .i64 (n : Int))).run Try.prog w = .ok (.slice (some ⟨w.heap.size, 0, none⟩) n n) (w.alloc (.cells (madeCells #[.int .i64 0] (n * 1)) 3)) := by
  obtain ⟨i, h1, h2, h3, h4⟩ := info_parts infoInt
  have h := run_make (P := Try.prog) w 42 3 i _ Try.underlying42 h1 h2 .i64 .i64 n n (by omega) (by omega) (by rw [h4]; omega) (by omega)
  rw [h3] at h
  exact h
theorem getD_out {xs : List Int} {k : Nat} (h : xs.length ≤ k) : xs.getD k 0 = 0 := by rw [List.getD_eq_getElem?_getD, List.getElem?_eq_none (by omega)]; rfl

def MixI (k : Nat) (L : Nat) (xs ys qs : List Int) (fa fb c : Int) : Prop :=
  qs.length = L ∧ digs qs ∧ ((val (qs.take k) : Nat) : Int) + (65536 : Int) ^ k * c = (val (xs.take k) : Nat) * fa + (val (ys.take k) : Nat) * fb
theorem MixI.step {k L : Nat} {xs ys qs : List Int} {fa fb c : Int} (h : MixI k L xs ys qs fa fb c) (hx : digs xs) (hy : digs ys) (hk : k < L) (s : Int) (hs : s = c + xs.getD k 0 * fa + ys.getD k 0 * fb) :
    MixI (k + 1) L xs ys (qs.set k (s % 65536)) fa fb (s / 65536) := by
  obtain ⟨h1, h2, h3⟩ := h
  have hdm : dig (s % 65536) := by unfold dig; omega
  refine ⟨by simpa using h1, digs_set h2 k hdm, ?_⟩
  have dx := digs_getD hx k
  have dy := digs_getD hy k
  rw [val_take_succ, val_take_succ, val_take_succ, take_set_same, getD_set _ _ _ (by omega)]
  unfold dig at dx dy hdm
  have e1 : (((xs.getD k 0).toNat : Nat) : Int) = xs.getD k 0 := by omega
  have e2 : (((ys.getD k 0).toNat : Nat) : Int) = ys.getD k 0 := by omega
  have e3 : (((s % 65536).toNat : Nat) : Int) = s % 65536 := by omega
  have e := pow_cast k
  have := mix_step (P := (65536 : Int) ^ k) h3 hs (show s = s % 65536 + 65536 * (s / 65536) by omega)
  rw [Int.natCast_add, Int.natCast_add, Int.natCast_add, Int.natCast_mul, Int.natCast_mul, Int.natCast_mul, e, e1, e2, e3, Int.pow_succ, Int.add_mul, Int.add_mul]
  omega
theorem MixI.all {L : Nat} {xs ys qs : List Int} {fa fb c : Int} (h : MixI L L xs ys qs fa fb c) (hx : xs.length ≤ L) (hy : ys.length ≤ L) (V : Int) (hV : V = (val xs : Nat) * fa + (val ys : Nat) * fb) (h0 : 0 ≤ V) (h1 : V < (65536 : Int) ^ L) : val qs = V.toNat := by
  obtain ⟨q1, q2, q3⟩ := h
  rw [List.take_of_length_le (by omega), List.take_of_length_le hx, List.take_of_length_le hy] at q3
  have hl := val_lt q2
  rw [q1] at hl
  have := mix_end (q3.trans hV.symm) hl h0 h1
  omega

end Go.Proofs.Ytcelbmnflcjfoaa
