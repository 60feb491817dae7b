/- DecText of the specification, at every fraction. Nothing that was there is written. No condition but that the lists are there. -/
import Derived.Test.YtmcfdkhkagkhbaaGreatDoorKW
namespace Go.Proofs.YtmcfdkhkagkhbaaGreatDoor
open Go.RowKit Go.Lib
set_option linter.unusedVariables false
set_option maxRecDepth 100000

set_option maxRecDepth 100000 in
set_option maxHeartbeats 2000000 in
theorem sDecText (bl : Bool) (a b : Option Addr) (la lb ca cb : Nat) (xs ys : List Int) (w : World) (hA : InI w a la ca xs) (hB : InI w b lb cb ys) :
    Calls Tryz.prog 5 #[.agg #[.bool bl, .slice a la ca, .slice b lb cb]] w fun e w' => e = .returned (.tuple #[.string (dtT bl xs ys), .bool (dtB bl xs ys)]) ∧ Below w.heap.size w w' := by
  have e0 : Below w.heap.size w (w.alloc (.cells #[.bool bl, .slice a la ca, .slice b lb cb] 28)) := (by repeat (first | exact Below.refl _ _ | refine Below.drew ?_ | refine old_alloc ?_ _ | refine old_trans ?_ (by assumption)))
  have R := hd (sFracOk bl a b la lb ca cb xs ys _ (hA.old e0) (hB.old e0))
  have K := Cel3.new w (.bool bl) (.slice a la ca) (.slice b lb cb) 28
  cases hf : fracOk bl xs ys
  · have q := hd (dtB_1 hf)
    have q2 := hd (dt_no q.out)
    rw [hf] at R
    clear hf hA hB
    go_enter Tryz.func5, Tryz.ntmps5
    go_wp2_with fail
    refine R.out.mono ?_
    rintro e w1 ⟨rfl, hb1⟩
    replace K := K.old hb1
    obtain ⟨k1, ⟨k2, k3, k4⟩, -⟩ := id K
    go_wp2
    go_ret2
    exact ⟨retD q2.out q.out, old_trans e0 hb1⟩
  cases bl
  · have hin := fracOk_in hf
    have cx := natOk_canon hin.1
    have cy := natOk_canon hin.2.1
    have h1 := sDecMain a b ca cb (val xs) (val ys) w (by rw [cx, hA.1]; exact hA) (by rw [cy, hB.1]; exact hB) (by rw [cx, cy]; exact hf)
    rw [cx, cy, hA.1, hB.1] at h1
    exact h1
  · have q := hd (@dtB_2 true xs ys rfl)
    have q2 := hd (dt_no q.out)
    rw [hf] at R
    clear hf hA hB
    go_enter Tryz.func5, Tryz.ntmps5
    go_wp2_with fail
    refine R.out.mono ?_
    rintro e w1 ⟨rfl, hb1⟩
    replace K := K.old hb1
    obtain ⟨k1, ⟨k2, k3, k4⟩, -⟩ := id K
    go_wp2
    go_ret2
    exact ⟨retD q2.out q.out, old_trans e0 hb1⟩
end Go.Proofs.YtmcfdkhkagkhbaaGreatDoor
