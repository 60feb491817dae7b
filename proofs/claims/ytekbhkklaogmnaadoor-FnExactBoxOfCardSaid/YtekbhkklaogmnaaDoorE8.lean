/- What two boxes have in common: the specification's loop, the program's box of each place. Conditions: 2^20 pairs at most. -/
import Derived.Test.YtekbhkklaogmnaaDoorE7
import Derived.Test.YtekbhkklaogmnaaDoorB6
import Derived.Deep.RegionHeld3
namespace Go.Proofs.YtekbhkklaogmnaaDoor
open Go.RowKit
set_option linter.unusedVariables false
set_option maxRecDepth 100000

theorem cell_al' {w : World} {p : Addr} {v : Value} (c : w.cell? p = some v) (o : Obj) : (w.alloc o).cell? p = some v := (World.grownBy_alloc w o none).cell c (by simp)
def meetX (ps qs : List (Int × Int)) (k : Nat) : Int := max (ps.getD k (0, 0)).1 (qs.getD k (0, 0)).1
def meetY (ps qs : List (Int × Int)) (k : Nat) : Int := min (ps.getD k (0, 0)).2 (qs.getD k (0, 0)).2
def meetAt (ps qs : List (Int × Int)) (k : Nat) : Bool := decide (meetX ps qs k ≤ meetY ps qs k)
def meetL (ps qs : List (Int × Int)) : List (Int × Int) := madeL ps.length (meetX ps qs) (meetY ps qs)
def meetRow (wd : Int) (ps qs : List (Int × Int)) : Bool := okRow wd ps && (okRow wd qs && (decide (ps.length = qs.length) && allI ps.length (fun k => meetAt ps qs k)))
theorem meetRow_no1 {wd : Int} {ps qs : List (Int × Int)} (h : okRow wd ps = false) : meetRow wd ps qs = false := by unfold meetRow; rw [h]; rfl
theorem meetRow_no2 {wd : Int} {ps qs : List (Int × Int)} (h : okRow wd qs = false) : meetRow wd ps qs = false := by unfold meetRow; rw [h]; simp
theorem meetRow_no3 {wd : Int} {ps qs : List (Int × Int)} (h : ps.length ≠ qs.length) : meetRow wd ps qs = false := by unfold meetRow; simp [h]
theorem meetRow_yes {wd : Int} {ps qs : List (Int × Int)} {len : Nat} (h : okRow wd ps = true) (h' : okRow wd qs = true) (hp : ps.length = len) (hq : qs.length = len) : meetRow wd ps qs = allI len (fun k => meetAt ps qs k) := by unfold meetRow; rw [h, h', hp, hq]; simp
end Go.Proofs.YtekbhkklaogmnaaDoor
