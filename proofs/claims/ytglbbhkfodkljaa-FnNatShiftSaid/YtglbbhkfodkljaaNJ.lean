/- Differences of numbers, if they are numbers. No condition. -/
import Derived.Test.YtglbbhkfodkljaaNI
namespace Go.Proofs.Ytglbbhkfodkljaa
open Go.RowKit
set_option linter.unusedVariables false

def subB (xs ys : List Int) : Bool := natOk xs && (natOk ys && decide (val ys ≤ val xs))
theorem subB_len {xs ys : List Int} : (resN (subB xs ys) (val xs - val ys)).length ≤ 1048576 := by
  unfold resN
  split
  · rename_i g
    unfold subB at g
    simp only [Bool.and_eq_true, decide_eq_true_eq] at g
    have h := natOk_lt g.1
    have := natL_len.2 (show val xs - val ys < 65536 ^ 256 by omega)
    omega
  · simp
set_option maxHeartbeats 2000000 in
theorem iNatSub (a b : Option Addr) (la lb ca cb : Nat) (xs ys : List Int) (w : World) (hA : InI w a la ca xs) (hB : InI w b lb cb ys) :
    Calls Try.prog 14 #[.slice a la ca, .slice b lb cb] w fun e w' => (∃ av cv, e = .returned (.tuple #[.slice av (resN (subB xs ys) (val xs - val ys)).length cv, .bool (subB xs ys)]) ∧ OI w' w.heap.size av cv (resN (subB xs ys) (val xs - val ys))) ∧ Below w.heap.size w w' := by
  have hla := hA.len
  have hlb := hB.len
  have K1 := hd (iNatOk a la ca xs w hA)
  have K2 := hd (iNatOk b lb cb ys w hB)
  cases h1 : natOk xs
  · have e : subB xs ys = false := by unfold subB; rw [h1]; rfl
    rw [e]
    rw [h1] at K1
    show Calls _ _ _ _ fun e w' => (∃ av cv, e = .returned (.tuple #[.slice av 0 cv, .bool false]) ∧ OI w' w.heap.size av cv []) ∧ Below w.heap.size w w'
    clear e h1
    go_enter Try.func14, Try.ntmps14
    go_wp2_with fail
    refine K1.out.mono ?_
    rintro e w1 ⟨rfl, rfl⟩
    go_wp2
    go_ret2
    exact ⟨⟨_, _, rfl, OI.none _ _⟩, Below.refl _ _⟩
  rw [h1] at K1
  cases h2 : natOk ys
  · have e : subB xs ys = false := by unfold subB; rw [h1, h2]; rfl
    rw [e]
    rw [h2] at K2
    show Calls _ _ _ _ fun e w' => (∃ av cv, e = .returned (.tuple #[.slice av 0 cv, .bool false]) ∧ OI w' w.heap.size av cv []) ∧ Below w.heap.size w w'
    clear e h1 h2
    go_enter Try.func14, Try.ntmps14
    go_wp2_with fail
    refine K1.out.mono ?_
    rintro e w1 ⟨rfl, rfl⟩
    go_wp2_with fail
    refine K2.out.mono ?_
    rintro e w1 ⟨rfl, rfl⟩
    go_wp2
    go_ret2
    exact ⟨⟨_, _, rfl, OI.none _ _⟩, Below.refl _ _⟩
  rw [h2] at K2
  have q1 := natOk_in h1
  have q2 := natOk_in h2
  have p1 := hA.1
  have p2 := hB.1
  have C := hd (iAgainst a b la lb ca cb xs ys w hA hB q1.2.1 q2.2.1 q1.2.2 q2.2.2)
  by_cases h3 : val ys ≤ val xs
  · have e : subB xs ys = true := by unfold subB; rw [h1, h2, decide_eq_true h3]; rfl
    rw [e]
    show Calls _ _ _ _ fun e w' => (∃ av cv, e = .returned (.tuple #[.slice av (natL (val xs - val ys)).length cv, .bool true]) ∧ OI w' w.heap.size av cv (natL (val xs - val ys))) ∧ Below w.heap.size w w'
    have hc : 0 ≤ cmpI (val xs) (val ys) := by unfold cmpI; rw [if_neg (by omega)]; split <;> omega
    have hll : lb ≤ la := by
      rcases Nat.lt_or_ge la lb with g | g
      · have := val_shorter q1.2.1 q2.2.1 q2.2.2 (by omega)
        omega
      · exact g
    have P := hd (fun w' (h : Below w.heap.size w w') => iMinus a b la lb ca cb xs ys w' (hA.old h) (hB.old h) q1.2.1 q2.2.1 (by omega) (by omega) h3)
    clear e h1 h2 q1 q2 h3
    generalize natL (val xs - val ys) = ql at *
    generalize cmpI (val xs) (val ys) = r at *
    have hc' : ¬ r < 0 := by omega
    clear hc
    go_enter Try.func14, Try.ntmps14
    go_wp2_with fail
    refine K1.out.mono ?_
    rintro e w1 ⟨rfl, rfl⟩
    go_wp2_with fail
    refine K2.out.mono ?_
    rintro e w1 ⟨rfl, rfl⟩
    go_wp2_with fail
    refine C.out.mono ?_
    rintro e w2 ⟨rfl, hb⟩
    go_wp2_with fail
    refine (P.out _ hb).mono ?_
    rintro e w3 ⟨⟨av2, cv2, rfl, hO2⟩, hb3⟩
    go_wp2
    go_ret2
    exact ⟨⟨_, _, rfl, hO2.mono hb.size⟩, old_trans hb hb3⟩
  · have e : subB xs ys = false := by unfold subB; rw [h1, h2, decide_eq_false h3]; rfl
    rw [e]
    have hc : cmpI (val xs) (val ys) = -1 := cmpI_lt (by omega)
    rw [hc] at C
    clear hc h3 q1 q2
    show Calls _ _ _ _ fun e w' => (∃ av cv, e = .returned (.tuple #[.slice av 0 cv, .bool false]) ∧ OI w' w.heap.size av cv []) ∧ Below w.heap.size w w'
    clear e h1 h2
    go_enter Try.func14, Try.ntmps14
    go_wp2_with fail
    refine K1.out.mono ?_
    rintro e w1 ⟨rfl, rfl⟩
    go_wp2_with fail
    refine K2.out.mono ?_
    rintro e w1 ⟨rfl, rfl⟩
    go_wp2_with fail
    refine C.out.mono ?_
    rintro e w2 ⟨rfl, hb⟩
    go_wp2
    go_ret2
    exact ⟨⟨_, _, rfl, OI.none _ _⟩, hb⟩
end Go.Proofs.Ytglbbhkfodkljaa
