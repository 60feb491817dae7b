/- Names, of both sides; nothing is written. No condition. -/
import Derived.Test.YtafpjgojmpjajaaZB
namespace Go.Proofs.Ytafpjgojmpjajaa
open Go.RowKit
set_option linter.unusedVariables false
set_option maxRecDepth 100000

def plainB (s : ByteArray) : Bool := decide (1 ≤ s.size ∧ s.size ≤ 8 ∧ isL (byt s 0) = true ∧ ∀ i, i < s.size → isW (byt s i) = true)
def nameB (s : ByteArray) : Bool := plainB s && !isOwn s
theorem plain_bad {s : ByteArray} {k : Nat} (hk : k < s.size) (h : isW (byt s k) = false) : plainB s = false := by
  unfold plainB
  exact decide_eq_false (fun g => by rw [g.2.2.2 k hk] at h; cases h)
theorem plain_first {s : ByteArray} (h : isL (byt s 0) = false) : plainB s = false := by
  unfold plainB
  exact decide_eq_false (fun g => by rw [g.2.2.1] at h; cases h)
theorem plain_len {s : ByteArray} (h : s.size < 1 ∨ 8 < s.size) : plainB s = false := by
  unfold plainB
  exact decide_eq_false (fun g => by omega)
theorem plain_mk {s : ByteArray} (h1 : 1 ≤ s.size) (h2 : s.size ≤ 8) (h3 : isL (byt s 0) = true) (h4 : ∀ i, i < s.size → isW (byt s i) = true) : plainB s = true := by
  unfold plainB
  exact decide_eq_true ⟨h1, h2, h3, h4⟩
theorem rB {b c : Bool} (h : c = b) : Ending.returned (.bool b) = .returned (.bool c) := by rw [h]
theorem isW_L {n : Int} (h : isL n = true) : isW n = true := by unfold isW; rw [h]; rfl
set_option maxHeartbeats 2000000 in
theorem sPlain (s : ByteArray) (w : World) : Calls Try.prog 46 #[.string s] w fun e w' => e = .returned (.bool (plainB s)) ∧ w' = w := by
  by_cases h1 : s.size < 1
  · rw [plain_len (.inl h1)]
    have h1' : (s.size : Int) < 1 := by omega
    go_enter Try.func46, Try.ntmps46
    go_wp2
    go_ret
    exact ⟨rfl, rfl⟩
  by_cases h2 : 8 < s.size
  · rw [plain_len (.inr h2)]
    have h1' : ¬ (s.size : Int) < 1 := by omega
    have h2' : 8 < (s.size : Int) := by omega
    go_enter Try.func46, Try.ntmps46
    go_wp2
    go_ret
    exact ⟨rfl, rfl⟩
  have h1' : ¬ (s.size : Int) < 1 := by omega
  have h2' : ¬ 8 < (s.size : Int) := by omega
  have i0 := idxS0 (t := 9) Try.underlying9 s (by omega)
  have L0 := hd (sLetter (byt s 0))
  by_cases l0 : isL (byt s 0) = true
  case neg =>
    have l0' : isL (byt s 0) = false := by simpa using l0
    rw [plain_first l0']
    rw [l0'] at L0
    clear l0 l0' h1 h2
    generalize byt s 0 = b0 at *
    go_enter Try.func46, Try.ntmps46
    go_wp2_with fail
    refine (L0.out _).mono ?_
    rintro e w1 ⟨rfl, rfl⟩
    go_wp2
    go_ret
    exact ⟨rfl, rfl⟩
  have Q := hd (fun (h4 : ∀ i, 1 ≤ i → i < s.size → isW (byt s i) = true) => plain_mk (s := s) (by omega) (by omega) l0 (fun i hi => by
    by_cases e : i = 0
    · subst e; exact isW_L l0
    · exact h4 i (by omega) hi))
  have B := hd (fun (k : Nat) (hk : k < s.size) h => plain_bad (s := s) hk h)
  rw [l0] at L0
  have IX := hd (fun k (hk : k < s.size) w => idxS (t := 9) Try.underlying9 s k hk w)
  clear l0
  generalize byt s 0 = b0 at *
  go_enter Try.func46, Try.ntmps46
  go_wp2_with fail
  refine (L0.out _).mono ?_
  rintro e w1 ⟨rfl, rfl⟩
  clear i0 L0
  go_wp2
  go_loopw [3] (fun a wr => ∃ k : Nat, 1 ≤ k ∧ k ≤ s.size ∧ a = .int .i64 k ∧ (∀ i, 1 ≤ i → i < k → isW (byt s i) = true) ∧ wr = w1) (fun b _ => s.size - (intOf b).toNat)
  case atStart => exact ⟨1, by omega, by omega, rfl, fun i h h' => absurd h (by omega), rfl⟩
  case round =>
    obtain ⟨k, hk1, hk, rfl, hd0, rfl⟩ := hrel
    by_cases hlt : k < s.size
    · have hlt' : (k : Int) < (s.size : Int) := by omega
      have ik := IX.out k hlt
      have Lk := hd (sLetter (byt s k))
      have Dk := hd (sDigit (byt s k))
      have Bk := hd (fun h => B.out k hlt h)
      have Gk := hd (fun (h : isW (byt s k) = true) i (h1 : 1 ≤ i) (h2 : i < k + 1) => (by
        by_cases e : i = k
        · subst e; exact h
        · exact hd0 i h1 (by omega) : isW (byt s i) = true))
      have eW : isW (byt s k) = (isL (byt s k) || isD (byt s k)) := rfl
      generalize isW (byt s k) = wk at *
      generalize isL (byt s k) = lk at *
      generalize isD (byt s k) = dk at *
      generalize byt s k = bk at *
      clear hd0
      cases lk
      · go_wp2_with fail
        refine (Lk.out _).mono ?_
        rintro e w1 ⟨rfl, rfl⟩
        go_wp2_with fail
        refine (Dk.out _).mono ?_
        rintro e w1 ⟨rfl, rfl⟩
        cases dk
        · go_wp2
          go_ret
          exact ⟨rB (Bk.out eW), rfl⟩
        · go_wp2
          go_roundw
          case rel => exact ⟨k + 1, by omega, by omega, by go_num, Gk.out eW, trivial⟩
          case measure => simp [intOf]; omega
      · go_wp2_with fail
        refine (Lk.out _).mono ?_
        rintro e w1 ⟨rfl, rfl⟩
        go_wp2
        go_roundw
        case rel => exact ⟨k + 1, by omega, by omega, by go_num, Gk.out (by simpa using eW), trivial⟩
        case measure => simp [intOf]; omega
    · have hlt' : ¬ (k : Int) < (s.size : Int) := by omega
      go_wp2
      go_ret
      exact ⟨rB (Q.out fun i h1 hi => hd0 i h1 (by omega)), rfl⟩
set_option maxHeartbeats 2000000 in
theorem sNameOk (s : ByteArray) (w : World) : Calls Try.prog 31 #[.string s] w fun e w' => e = .returned (.bool (nameB s)) ∧ w' = w := by
  have P := hd (sPlain s)
  have O := hd (sWord s)
  unfold nameB
  generalize plainB s = p at *
  generalize isOwn s = o at *
  go_enter Try.func31, Try.ntmps31
  go_wp2_with fail
  refine (P.out _).mono ?_
  rintro e w1 ⟨rfl, rfl⟩
  cases p
  · go_wp2
    go_ret
    exact ⟨rfl, rfl⟩
  · go_wp2_with fail
    refine (O.out _).mono ?_
    rintro e w1 ⟨rfl, rfl⟩
    go_wp2
    go_ret
    exact ⟨rfl, rfl⟩
theorem sNameOkB (s : ByteArray) (w : World) : Calls Try.prog 31 #[.string s] w fun e w' => e = .returned (.bool (nameB s)) ∧ Below w.heap.size w w' :=
  (sNameOk s w).mono (by rintro e w' ⟨h, rfl⟩; exact ⟨h, Below.refl _ _⟩)
end Go.Proofs.Ytafpjgojmpjajaa
