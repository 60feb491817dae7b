/- Powers, by the specification. No condition. -/
import Derived.Test.YtcbcijdfmmgdeaaNO
import Derived.Test.YtcbcijdfmmgdeaaNK
namespace Go.Proofs.Ytcbcijdfmmgdeaa
open Go.RowKit
set_option linter.unusedVariables false

def powB (xs : List Int) (n : Int) : Bool := natOk xs && (decide (0 ≤ n ∧ n ≤ 64) && fitsB (val xs ^ n.toNat))
theorem fits_lt {v : Nat} : fitsB v = true ↔ v < 65536 ^ 256 := by unfold fitsB; rw [decide_eq_true_eq, natL_len]
theorem fits_no {v : Nat} (h : ¬ (natL v).length ≤ 256) : fitsB v = false := by unfold fitsB; exact decide_eq_false h
theorem pow_up {V m n : Nat} (h : ¬ (natL (V ^ m)).length ≤ 256) (hm : m ≤ n) : fitsB (V ^ n) = false := by
  rw [natL_len] at h
  have h0 : 0 < V := by
    rcases Nat.eq_zero_or_pos V with e | e
    · subst e
      exfalso
      apply h
      have h1 : 0 ^ m ≤ 1 := by cases m <;> simp
      have h2 : 1 < 65536 ^ 256 := by exact Nat.one_lt_pow (by omega) (by omega)
      omega
    · exact e
  have := Nat.pow_le_pow_right h0 hm
  refine fits_no ?_
  rw [natL_len]
  omega
theorem powB_fits {xs : List Int} {n : Int} (h : powB xs n = true) : fitsB (val xs ^ n.toNat) = true := by
  unfold powB at h
  simp only [Bool.and_eq_true] at h
  exact h.2.2
theorem one_row (w : World) (b : Nat) (hb : b = w.heap.size) (t : TypeId) : IRow (w.alloc (.cells #[.int .i64 1] t)) b (natL (1 : Nat)) := by
  have e : natL 1 = [1] := by rw [natL_pos (by omega), show 1 / 65536 = 0 by decide, natL_zero]; rfl
  subst hb
  rw [e]
  refine ⟨by simp, fun i hi => ?_⟩
  have : i = 0 := by simpa using hi
  subst this
  exact ⟨by simp, by simp⟩
theorem one_oi (w : World) (t : TypeId) : OI (w.alloc (.cells #[.int .i64 1] t)) w.heap.size (some ⟨w.heap.size, 0, none⟩) 1 (natL (1 : Nat)) := by
  have e : natL 1 = [1] := by rw [natL_pos (by omega), show 1 / 65536 = 0 by decide, natL_zero]; rfl
  exact ⟨natL_fits _, by rw [e]; simp, by decide, .inr ⟨_, rfl, Nat.le_refl _, one_row w _ rfl t⟩⟩
theorem one_len : (natL 1).length = 1 := by rw [natL_pos (by omega), show 1 / 65536 = 0 by decide, natL_zero]; rfl
set_option maxHeartbeats 2000000 in
theorem sNatPow (a : Option Addr) (len cap : Nat) (xs : List Int) (n : Int) (w : World) (hR : InI w a len cap xs) :
    Calls Try.prog 29 #[.slice a len cap, .int .i64 n] w fun e w' => (∃ av cv, e = .returned (.tuple #[.slice av (resN (powB xs n) (val xs ^ n.toNat)).length cv, .bool (powB xs n)]) ∧ OI w' w.heap.size av cv (resN (powB xs n) (val xs ^ n.toNat))) ∧ Below w.heap.size w w' := by
  have hlen := hR.len
  have hp := hR.1
  have K1 := hd (sNatOk a len cap xs w hR)
  cases h1 : natOk xs
  · have e : powB xs n = false := by unfold powB; rw [h1]; rfl
    rw [e]
    show Calls _ _ _ _ fun e w' => (∃ av cv, e = .returned (.tuple #[.slice av 0 cv, .bool false]) ∧ OI w' w.heap.size av cv []) ∧ Below w.heap.size w w'
    rw [h1] at K1
    clear e h1
    go_enter Try.func29, Try.ntmps29
    go_wp2_with fail
    refine K1.out.mono ?_
    rintro e w1 ⟨rfl, rfl⟩
    go_wp2
    go_ret2
    exact ⟨⟨_, _, rfl, OI.none _ _⟩, Below.refl _ _⟩
  rw [h1] at K1
  by_cases hn : 0 ≤ n ∧ n ≤ 64
  case neg =>
    have e : powB xs n = false := by unfold powB; rw [h1, decide_eq_false hn]; rfl
    rw [e]
    show Calls _ _ _ _ fun e w' => (∃ av cv, e = .returned (.tuple #[.slice av 0 cv, .bool false]) ∧ OI w' w.heap.size av cv []) ∧ Below w.heap.size w w'
    clear e h1
    have hcase : n < 0 ∨ (0 ≤ n ∧ 64 < n) := by omega
    clear hn
    rcases hcase with hc | ⟨hc0, hc⟩
    all_goals
      go_enter Try.func29, Try.ntmps29
      go_wp2_with fail
      refine K1.out.mono ?_
      rintro e w1 ⟨rfl, rfl⟩
      go_wp2
      go_ret2
      exact ⟨⟨_, _, rfl, OI.none _ _⟩, Below.refl _ _⟩
  obtain ⟨m, rfl⟩ := Int.eq_ofNat_of_zero_le hn.1
  have e : powB xs (m : Int) = fitsB (val xs ^ m) := by unfold powB; rw [h1, decide_eq_true hn]; rfl
  rw [e, Int.toNat_natCast]
  have q := natOk_in h1
  have hup := hd (fun k h hk => pow_up (V := val xs) (m := k) (n := m) h hk)
  have hone := hd (one_oi w 3)
  have M := hd (fun V' av cv w' (h : OI w' w.heap.size av cv (natL V')) (hl : (natL V').length ≤ 256) (hB : Below w.heap.size w w') => sMul av a (natL V').length len cv cap (natL V') xs w' h.inI (hR.old hB) (digs_natL _) q.2.1 (by omega) (by omega))
  have hfin : Hid ((natL (val xs ^ m)).length ≤ 256 → fitsB (val xs ^ m) = true) := fun h => decide_eq_true h
  generalize hV : val xs = V at *
  clear e h1 hV q
  go_enter Try.func29, Try.ntmps29
  go_wp2_with fail
  refine K1.out.mono ?_
  rintro e w1 ⟨rfl, hw⟩
  obtain rfl : w = w1 := hw.symm
  clear hw
  have hB1 : Below w.heap.size w (w.alloc (.cells #[.int .i64 1] 3)) := (Below.refl _ w).alloc (Nat.le_refl _) _
  go_wp2
  go_loopw [6, 7] (fun o i wr => ∃ (k : Nat) (av : Option Addr) (l cv : Nat), k ≤ m ∧ i = .int .i64 k ∧ o = .slice av l cv ∧ l = (natL (V ^ k)).length ∧ l ≤ 256 ∧ OI wr w.heap.size av cv (natL (V ^ k)) ∧ Below w.heap.size w wr) (fun _ i _ => m - (intOf i).toNat)
  case atStart => exact ⟨0, _, 1, _, by omega, rfl, rfl, by rw [Nat.pow_zero, one_len], by omega, by rw [Nat.pow_zero]; exact hone.out, hB1⟩
  case round =>
    obtain ⟨k, av, l, cv, hk, rfl, rfl, hl, hl2, O, hb⟩ := hrel
    by_cases hlt : k < m
    · have P := hd (M.out (V ^ k) av cv wr O (by omega) hb)
      rw [← hl, val_natL, ← Nat.pow_succ] at P
      have hl' := hd hl
      clear hl O
      go_wp2_with fail
      refine P.out.mono ?_
      rintro e w2 ⟨⟨av2, cv2, rfl, hO⟩, hb2⟩
      have hsz := hb.size
      have hO' := hO.mono hsz
      have hbb := old_trans hb hb2
      obtain ⟨l2, hl2'⟩ : ∃ l2, l2 = (natL (V ^ (k + 1))).length := ⟨_, rfl⟩
      have hll := hO.inI.len
      have hh := hd hl2'
      rw [← hl2'] at hll ⊢
      clear hl2'
      by_cases hfit : l2 ≤ 256
      · go_wp2
        go_roundw
        case rel => exact ⟨k + 1, av2, l2, cv2, by omega, by go_num, rfl, hh.out, hfit, hO', hbb⟩
        case measure => simp [intOf]; omega
      · have hf' := hd (hup.out (k + 1) (by rw [← hh.out]; exact hfit) (by omega))
        go_wp2
        go_ret2
        rw [hf'.out]
        exact ⟨⟨_, _, rfl, OI.none _ _⟩, hbb⟩
    · obtain rfl : k = m := by omega
      have hf := hd (hfin.out (by omega))
      subst hl
      go_wp2
      go_ret2
      rw [hf.out]
      exact ⟨⟨av, cv, rfl, O⟩, hb⟩
end Go.Proofs.Ytcbcijdfmmgdeaa
