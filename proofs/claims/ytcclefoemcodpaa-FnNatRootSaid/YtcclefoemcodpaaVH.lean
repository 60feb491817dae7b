/- Square roots of numbers, if they are numbers: by the program and by the specification. No condition. -/
import Derived.Test.YtcclefoemcodpaaVG
namespace Go.Proofs.Ytcclefoemcodpaa
open Go.RowKit
set_option linter.unusedVariables false

def rootX (xs : List Int) (r : Nat) : Bool := natOk xs && decide (r * r = val xs)
theorem rootN_len {xs : List Int} {r : Nat} (hr : isRoot (val xs) r) : (resN (natOk xs) r).length ≤ 1048576 := by
  cases h : natOk xs
  · show ([] : List Int).length ≤ 1048576
    simp
  · show (natL r).length ≤ 1048576
    have := root_len (Nat.le_trans sq_ge hr.1) (natOk_lt h)
    omega
set_option maxHeartbeats 2000000 in
theorem iNatRoot (a : Option Addr) (len cap : Nat) (xs : List Int) (r : Nat) (hr : isRoot (val xs) r) (w : World) (hR : InI w a len cap xs) :
    Calls Try.prog 5 #[.slice a len cap] w fun e w' => (∃ av cv, e = .returned (.tuple #[.slice av (resN (natOk xs) r).length cv, .bool (rootX xs r), .bool (natOk xs)]) ∧ OI w' w.heap.size av cv (resN (natOk xs) r)) ∧ Below w.heap.size w w' := by
  have hlen := hR.len
  have hp := hR.1
  have K1 := hd (iNatOk a len cap xs w hR)
  cases h1 : natOk xs
  · have e : rootX xs r = false := by unfold rootX; rw [h1]; rfl
    rw [e]
    show Calls _ _ _ _ fun e w' => (∃ av cv, e = .returned (.tuple #[.slice av 0 cv, .bool false, .bool false]) ∧ OI w' w.heap.size av cv []) ∧ Below w.heap.size w w'
    rw [h1] at K1
    clear e h1 hr
    go_enter Try.func5, Try.ntmps5
    go_wp2_with fail
    refine K1.out.mono ?_
    rintro e w1 ⟨rfl, rfl⟩
    go_wp2
    go_ret3
    exact ⟨⟨_, _, rfl, OI.none _ _⟩, Below.refl _ _⟩
  rw [h1] at K1
  have e : rootX xs r = decide (r * r = val xs) := by unfold rootX; rw [h1]; rfl
  rw [e]
  show Calls _ _ _ _ fun e w' => (∃ av cv, e = .returned (.tuple #[.slice av (natL r).length cv, .bool (decide (r * r = val xs)), .bool true]) ∧ OI w' w.heap.size av cv (natL r)) ∧ Below w.heap.size w w'
  have q := natOk_in h1
  have T := hd (iRoot a len cap xs r w hR h1 hr)
  have hrl := root_len (Nat.le_trans sq_ge hr.1) (natOk_lt h1)
  have M := hd (fun av cv base w' (h : OI w' base av cv (natL r)) => iTimes av av _ _ cv cv _ _ w' h.inI h.inI (digs_natL _) (digs_natL _) (by omega) (by omega))
  rw [val_natL] at M
  have C := hd (fun av2 cv2 base w' (hb : Below w.heap.size w w') (h : OI w' base av2 cv2 (natL (r * r))) => iAgainst av2 a _ len cv2 cap _ xs w' h.inI (hR.old hb) (digs_natL _) q.2.1 (topped_natL _) q.2.2)
  rw [val_natL] at C
  have hcz : Hid ((cmpI (r * r) (val xs) == 0) = decide (r * r = val xs)) := by
    show _ = _
    rcases Nat.lt_trichotomy (r * r) (val xs) with g | g | g
    · rw [cmpI_lt g, decide_eq_false (by omega)]; rfl
    · rw [g, cmpI_eq, decide_eq_true rfl]; rfl
    · rw [cmpI_gt g, decide_eq_false (by omega)]; rfl
  clear e h1 hr q hrl
  generalize natL (r * r) = sl at *
  generalize hdec : decide (r * r = val xs) = bx at *
  generalize cmpI (r * r) (val xs) = cz at *
  generalize natL r = ql at *
  go_enter Try.func5, Try.ntmps5
  go_wp2_with fail
  refine K1.out.mono ?_
  rintro e w1 ⟨rfl, rfl⟩
  go_wp2_with fail
  refine T.out.mono ?_
  rintro e w2 ⟨⟨av, cv, rfl, hO⟩, hb2⟩
  go_wp2_with fail
  refine (M.out _ _ _ _ hO).mono ?_
  rintro e w3 ⟨⟨av3, cv3, rfl, hO3⟩, hb3⟩
  have hB3 := old_trans hb2 hb3
  go_wp2_with fail
  refine (C.out _ _ _ _ hB3 hO3).mono ?_
  rintro e w4 ⟨rfl, hb4⟩
  have hcz' := hcz.out
  go_wp2
  go_ret3
  exact ⟨⟨_, _, rfl, (hO.later hb3).later hb4⟩, old_trans hB3 hb4⟩
end Go.Proofs.Ytcclefoemcodpaa
