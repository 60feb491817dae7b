/- Products of numbers, where they have no more digits than may be. No condition. -/
import Derived.Test.YtfjoilkgpdepaaaNN
namespace Go.Proofs.Ytfjoilkgpdepaaa
open Go.RowKit
set_option linter.unusedVariables false

def mulB (xs ys : List Int) : Bool := natOk xs && (natOk ys && fitsB (val xs * val ys))
theorem mulB_fits {xs ys : List Int} (h : mulB xs ys = true) : fitsB (val xs * val ys) = true := by
  unfold mulB at h
  simp only [Bool.and_eq_true] at h
  exact h.2.2
set_option maxHeartbeats 2000000 in
theorem iNatMul (a b : Option Addr) (la lb ca cb : Nat) (xs ys : List Int) (w : World) (hA : InI w a la ca xs) (hB : InI w b lb cb ys) :
    Calls Try.prog 33 #[.slice a la ca, .slice b lb cb] w fun e w' => (∃ av cv, e = .returned (.tuple #[.slice av (resN (mulB xs ys) (val xs * val ys)).length cv, .bool (mulB xs ys)]) ∧ OI w' w.heap.size av cv (resN (mulB xs ys) (val xs * val ys))) ∧ Below w.heap.size w w' := by
  have hla := hA.len
  have hlb := hB.len
  have K1 := hd (iNatOk a la ca xs w hA)
  have K2 := hd (iNatOk b lb cb ys w hB)
  cases h1 : natOk xs
  · have e : mulB xs ys = false := by unfold mulB; rw [h1]; rfl
    rw [e]
    rw [h1] at K1
    show Calls _ _ _ _ fun e w' => (∃ av cv, e = .returned (.tuple #[.slice av 0 cv, .bool false]) ∧ OI w' w.heap.size av cv []) ∧ Below w.heap.size w w'
    clear e h1
    go_enter Try.func33, Try.ntmps33
    go_wp2_with fail
    refine K1.out.mono ?_
    rintro e w1 ⟨rfl, rfl⟩
    go_wp2
    go_ret2
    exact ⟨⟨_, _, rfl, OI.none _ _⟩, Below.refl _ _⟩
  rw [h1] at K1
  cases h2 : natOk ys
  · have e : mulB xs ys = false := by unfold mulB; rw [h1, h2]; rfl
    rw [e]
    rw [h2] at K2
    show Calls _ _ _ _ fun e w' => (∃ av cv, e = .returned (.tuple #[.slice av 0 cv, .bool false]) ∧ OI w' w.heap.size av cv []) ∧ Below w.heap.size w w'
    clear e h1 h2
    go_enter Try.func33, Try.ntmps33
    go_wp2_with fail
    refine K1.out.mono ?_
    rintro e w1 ⟨rfl, rfl⟩
    go_wp2_with fail
    refine K2.out.mono ?_
    rintro e w1 ⟨rfl, rfl⟩
    go_wp2
    go_ret2
    exact ⟨⟨_, _, rfl, OI.none _ _⟩, Below.refl _ _⟩
  rw [h2] at K2
  have e : mulB xs ys = fitsB (val xs * val ys) := by unfold mulB; rw [h1, h2]; rfl
  rw [e]
  have q1 := natOk_in h1
  have q2 := natOk_in h2
  have p1 := hA.1
  have p2 := hB.1
  have P := hd (iTimes a b la lb ca cb xs ys w hA hB q1.2.1 q2.2.1 (by omega) (by omega))
  have T := hd (fun av cv w' h => iFits w.heap.size av cv (val xs * val ys) w' h)
  clear e h1 h2 q1 q2
  generalize resN (fitsB (val xs * val ys)) (val xs * val ys) = rl at *
  generalize fitsB (val xs * val ys) = r at *
  generalize natL (val xs * val ys) = ql at *
  go_enter Try.func33, Try.ntmps33
  go_wp2_with fail
  refine K1.out.mono ?_
  rintro e w1 ⟨rfl, rfl⟩
  go_wp2_with fail
  refine K2.out.mono ?_
  rintro e w1 ⟨rfl, rfl⟩
  go_wp2_with fail
  refine P.out.mono ?_
  rintro e w2 ⟨⟨av, cv, rfl, hO⟩, hb⟩
  go_wp2_with fail
  refine (T.out _ _ _ hO).mono ?_
  rintro e w3 ⟨⟨av2, cv2, rfl, hO2⟩, rfl⟩
  go_wp2
  go_ret2
  exact ⟨⟨_, _, rfl, hO2⟩, hb⟩
set_option maxHeartbeats 2000000 in
theorem sNatMul (a b : Option Addr) (la lb ca cb : Nat) (xs ys : List Int) (w : World) (hA : InI w a la ca xs) (hB : InI w b lb cb ys) :
    Calls Try.prog 32 #[.slice a la ca, .slice b lb cb] w fun e w' => (∃ av cv, e = .returned (.tuple #[.slice av (resN (mulB xs ys) (val xs * val ys)).length cv, .bool (mulB xs ys)]) ∧ OI w' w.heap.size av cv (resN (mulB xs ys) (val xs * val ys))) ∧ Below w.heap.size w w' := by
  have hla := hA.len
  have hlb := hB.len
  have K1 := hd (sNatOk a la ca xs w hA)
  have K2 := hd (sNatOk b lb cb ys w hB)
  cases h1 : natOk xs
  · have e : mulB xs ys = false := by unfold mulB; rw [h1]; rfl
    rw [e]
    rw [h1] at K1
    show Calls _ _ _ _ fun e w' => (∃ av cv, e = .returned (.tuple #[.slice av 0 cv, .bool false]) ∧ OI w' w.heap.size av cv []) ∧ Below w.heap.size w w'
    clear e h1
    go_enter Try.func32, Try.ntmps32
    go_wp2_with fail
    refine K1.out.mono ?_
    rintro e w1 ⟨rfl, rfl⟩
    go_wp2
    go_ret2
    exact ⟨⟨_, _, rfl, OI.none _ _⟩, Below.refl _ _⟩
  rw [h1] at K1
  cases h2 : natOk ys
  · have e : mulB xs ys = false := by unfold mulB; rw [h1, h2]; rfl
    rw [e]
    rw [h2] at K2
    show Calls _ _ _ _ fun e w' => (∃ av cv, e = .returned (.tuple #[.slice av 0 cv, .bool false]) ∧ OI w' w.heap.size av cv []) ∧ Below w.heap.size w w'
    clear e h1 h2
    go_enter Try.func32, Try.ntmps32
    go_wp2_with fail
    refine K1.out.mono ?_
    rintro e w1 ⟨rfl, rfl⟩
    go_wp2_with fail
    refine K2.out.mono ?_
    rintro e w1 ⟨rfl, rfl⟩
    go_wp2
    go_ret2
    exact ⟨⟨_, _, rfl, OI.none _ _⟩, Below.refl _ _⟩
  rw [h2] at K2
  have e : mulB xs ys = fitsB (val xs * val ys) := by unfold mulB; rw [h1, h2]; rfl
  rw [e]
  have q1 := natOk_in h1
  have q2 := natOk_in h2
  have p1 := hA.1
  have p2 := hB.1
  have P := hd (sMul a b la lb ca cb xs ys w hA hB q1.2.1 q2.2.1 (by omega) (by omega))
  have T := hd (fun av cv w' h => sFits w.heap.size av cv (val xs * val ys) w' h)
  clear e h1 h2 q1 q2
  generalize resN (fitsB (val xs * val ys)) (val xs * val ys) = rl at *
  generalize fitsB (val xs * val ys) = r at *
  generalize natL (val xs * val ys) = ql at *
  go_enter Try.func32, Try.ntmps32
  go_wp2_with fail
  refine K1.out.mono ?_
  rintro e w1 ⟨rfl, rfl⟩
  go_wp2_with fail
  refine K2.out.mono ?_
  rintro e w1 ⟨rfl, rfl⟩
  go_wp2_with fail
  refine P.out.mono ?_
  rintro e w2 ⟨⟨av, cv, rfl, hO⟩, hb⟩
  go_wp2_with fail
  refine (T.out _ _ _ hO).mono ?_
  rintro e w3 ⟨⟨av2, cv2, rfl, hO2⟩, rfl⟩
  go_wp2
  go_ret2
  exact ⟨⟨_, _, rfl, hO2⟩, hb⟩
end Go.Proofs.Ytfjoilkgpdepaaa
