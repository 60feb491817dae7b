/- The calls of the law of patterns, case by case. Condition, of BoxOf: the library's handle of errors lies as its text lays it. -/
import Derived.Test.YtmllcpcbaojipaaDoorPK20
import Derived.Test.YtmllcpcbaojipaaDoorPK25
namespace Go.Proofs.YtmllcpcbaojipaaDoor
open Go.RowKit
set_option linter.unusedVariables false
set_option maxRecDepth 100000

theorem sOkO (av : Option Addr) (cv base : Nat) (ps : List (Int × Int)) (w : World) (O : OB w base av cv ps) (wd : Int) (r : Bool) (h : okRow wd ps = r) : Calls Tryd.prog 7 #[.int .i64 wd, .agg #[.slice av ps.length cv]] w fun e w' => e = .returned (.bool r) ∧ Below w.heap.size w w' := by
  subst h; exact sBoxOk wd av _ cv ps w O.inRow
theorem iIsO (av : Option Addr) (cv base : Nat) (ps : List (Int × Int)) (w : World) (O : OB w base av cv ps) (au : Option Addr) (cu base' : Nat) (qs : List (Int × Int)) (U : OB w base' au cu qs) (r : Bool) (h : isRow ps qs = r) : Calls Tryd.prog 8 #[.agg #[.slice av ps.length cv], .agg #[.slice au qs.length cu]] w fun e w' => e = .returned (.bool r) ∧ Below w.heap.size w w' := by
  subst h; exact iBoxIs av au _ _ cv cu ps qs w O.inRow U.inRow
theorem iBitsYes (wd : Int) (a : Option Addr) (cap base : Nat) (ps : List (Int × Int)) (w : World) (O : OB w base a cap ps) (hl : ps.length ≤ 7) (h : okRow wd ps = true) :
    Calls Tryd.prog 5 #[.int .i64 wd, .agg #[.slice a ps.length cap]] w fun e w' => (∃ av cv, e = .returned (.slice av (2 * ps.length) cv) ∧ OU w' w.heap.size av cv (bitsL wd ps)) ∧ Below w.heap.size w w' := by
  have := iBoxBitsO wd a cap ps w O.inRow (by omega)
  rw [h] at this
  simp only [resU, if_true, bitsL_len] at this
  exact this
theorem iBitsNo (wd : Int) (a : Option Addr) (cap base : Nat) (ps : List (Int × Int)) (w : World) (O : OB w base a cap ps) (hl : ps.length ≤ 7) (h : okRow wd ps = false) :
    Calls Tryd.prog 5 #[.int .i64 wd, .agg #[.slice a ps.length cap]] w fun e w' => (∃ av cv, e = .returned (.slice av 0 cv) ∧ OU w' w.heap.size av cv []) ∧ Below w.heap.size w w' := by
  have := iBoxBitsO wd a cap ps w O.inRow (by omega)
  rw [h] at this
  exact this
theorem iOfYes (wd : Int) (a : Option Addr) (cap base : Nat) (ps : List (Int × Int)) (w : World) (U : OU w base a cap (bitsL wd ps)) (hE : ET w) (h : okRow wd ps = true) :
    Calls Tryd.prog 6 #[.int .i64 wd, .slice a (2 * ps.length) cap] w fun e w' => (∃ av cv, e = .returned (.tuple #[.agg #[.slice av ps.length cv], .int .i64 0]) ∧ OB w' w.heap.size av cv ps) ∧ Below w.heap.size w w' := by
  have := iBoxOf wd a cap (bitsL wd ps) w U.inU hE
  rw [(of_bits h).1, (of_bits h).2, bitsL_len] at this
  exact this
theorem iOfNone (wd : Int) (a : Option Addr) (cap base : Nat) (w : World) (U : OU w base a cap []) (hE : ET w) :
    Calls Tryd.prog 6 #[.int .i64 wd, .slice a 0 cap] w fun e w' => (∃ av cv, e = .returned (.tuple #[.agg #[.slice av 0 cv], .int .i64 1]) ∧ OB w' w.heap.size av cv []) ∧ Below w.heap.size w w' := by
  have := iBoxOf wd a cap [] w U.inU hE
  rw [(of_none wd).1, (of_none wd).2] at this
  exact this
theorem iOfC (wd c : Int) (a : Option Addr) (cap base : Nat) (xs : List Int) (w : World) (U : OU w base a cap xs) (hE : ET w) (hc : ofC wd xs = c) (h : c ≠ 0) :
    Calls Tryd.prog 6 #[.int .i64 wd, .slice a xs.length cap] w fun e w' => (∃ av cv, e = .returned (.tuple #[.agg #[.slice av 0 cv], .int .i64 c]) ∧ OB w' w.heap.size av cv []) ∧ Below w.heap.size w w' := by
  have := iBoxOf wd a cap xs w U.inU hE
  rw [ofQ_no (by rw [hc]; exact h), hc] at this
  exact this
theorem sOfC (wd c : Int) (a : Option Addr) (cap base : Nat) (xs : List Int) (w : World) (U : OU w base a cap xs) (hc : ofC wd xs = c) (h : c ≠ 0) :
    Calls Tryd.prog 10 #[.int .i64 wd, .slice a xs.length cap] w fun e w' => (∃ av cv, e = .returned (.tuple #[.agg #[.slice av 0 cv], .int .i64 c]) ∧ OB w' w.heap.size av cv []) ∧ Below w.heap.size w w' := by
  have := sBoxOf wd a cap xs w U.inU
  rw [ofQ_no (by rw [hc]; exact h), hc] at this
  exact this
theorem iOf0 (wd : Int) (a : Option Addr) (cap base : Nat) (xs : List Int) (w : World) (U : OU w base a cap xs) (hE : ET w) (hc : ofC wd xs = 0) :
    Calls Tryd.prog 6 #[.int .i64 wd, .slice a xs.length cap] w fun e w' => (∃ av cv, e = .returned (.tuple #[.agg #[.slice av (ofQ wd xs).length cv], .int .i64 0]) ∧ OB w' w.heap.size av cv (ofQ wd xs)) ∧ Below w.heap.size w w' := by
  have := iBoxOf wd a cap xs w U.inU hE
  rw [hc] at this
  exact this
theorem sOf0 (wd : Int) (a : Option Addr) (cap base : Nat) (xs : List Int) (w : World) (U : OU w base a cap xs) (hc : ofC wd xs = 0) :
    Calls Tryd.prog 10 #[.int .i64 wd, .slice a xs.length cap] w fun e w' => (∃ av cv, e = .returned (.tuple #[.agg #[.slice av (ofQ wd xs).length cv], .int .i64 0]) ∧ OB w' w.heap.size av cv (ofQ wd xs)) ∧ Below w.heap.size w w' := by
  have := sBoxOf wd a cap xs w U.inU
  rw [hc] at this
  exact this
theorem ofC_wd {wd : Int} {xs : List Int} (h : ofC wd xs = 0) : wd = 32 ∨ wd = 64 := by
  by_cases q : ofBad wd xs
  · rw [ofC_bad q] at h; cases h
  · unfold ofBad at q; omega
end Go.Proofs.YtmllcpcbaojipaaDoor
