/- What a law of parts takes of the calls: boxes split and cut, in both arms. No condition. -/
import Derived.Test.YtpnfkigeagbhpaaPK24
import Derived.Test.YtpnfkigeagbhpaaPK28
import Derived.Deep.RegionHeld3
import Derived.Deep.DeepCutAuto
namespace Go.Proofs.Ytpnfkigeagbhpaa
open Go.RowKit
set_option linter.unusedVariables false
set_option maxRecDepth 100000
theorem BR2.isNo {n0 : Nat} {w' : World} {e : Ending} {r : Bool} {l1 l2 : List (Int × Int)} (h : BR2 n0 w' e r l1 l2) (hr : r = false) : ∃ av cv av2 cv2, e = .returned (.tuple #[.agg #[.slice av 0 cv], .agg #[.slice av2 0 cv2], .bool false]) := by
  subst hr
  obtain ⟨av, cv, av2, cv2, rfl, _⟩ := h
  exact ⟨av, cv, av2, cv2, rfl⟩
theorem BR2.isYes {n0 : Nat} {w' : World} {e : Ending} {r : Bool} {l1 l2 : List (Int × Int)} (h : BR2 n0 w' e r l1 l2) (hr : r = true) : ∃ av cv av2 cv2, e = .returned (.tuple #[.agg #[.slice av l1.length cv], .agg #[.slice av2 l2.length cv2], .bool true]) ∧ OB w' n0 av cv l1 ∧ OB w' n0 av2 cv2 l2 := by
  subst hr
  obtain ⟨av, cv, av2, cv2, rfl, h1, h2, _⟩ := h
  exact ⟨av, cv, av2, cv2, rfl, h1, h2⟩
section
variable (wd at_ : Int) (av : Option Addr) (cv base : Nat) (ps : List (Int × Int)) (w : World) (O : OB w base av cv ps) (hl : ps.length ≤ 7)
include O hl
theorem iSplNo (h : splR wd at_ ps = false) : Calls Try.prog 20 #[.int .i64 wd, .agg #[.slice av ps.length cv], .int .i64 at_] w fun e w' => (∃ ax cx ay cy, e = .returned (.tuple #[.agg #[.slice ax 0 cx], .agg #[.slice ay 0 cy], .bool false])) ∧ Below w.heap.size w w' :=
  (iBoxSplitO wd at_ av cv ps w O.inRow (by omega)).mono fun e w' k => ⟨k.1.isNo h, k.2⟩
theorem iSplYes (h : splR wd at_ ps = true) : Calls Try.prog 20 #[.int .i64 wd, .agg #[.slice av ps.length cv], .int .i64 at_] w fun e w' => (∃ ax cx ay cy, e = .returned (.tuple #[.agg #[.slice ax (splA at_ ps).length cx], .agg #[.slice ay (splZ at_ ps).length cy], .bool true]) ∧ OB w' w.heap.size ax cx (splA at_ ps) ∧ OB w' w.heap.size ay cy (splZ at_ ps)) ∧ Below w.heap.size w w' :=
  (iBoxSplitO wd at_ av cv ps w O.inRow (by omega)).mono fun e w' k => ⟨k.1.isYes h, k.2⟩
theorem sSplNo (h : splR wd at_ ps = false) : Calls Try.prog 21 #[.int .i64 wd, .agg #[.slice av ps.length cv], .int .i64 at_] w fun e w' => (∃ ax cx ay cy, e = .returned (.tuple #[.agg #[.slice ax 0 cx], .agg #[.slice ay 0 cy], .bool false])) ∧ Below w.heap.size w w' :=
  (sBoxSplitO wd at_ av cv ps w O.inRow (by omega)).mono fun e w' k => ⟨k.1.isNo h, k.2⟩
theorem sSplYes (h : splR wd at_ ps = true) : Calls Try.prog 21 #[.int .i64 wd, .agg #[.slice av ps.length cv], .int .i64 at_] w fun e w' => (∃ ax cx ay cy, e = .returned (.tuple #[.agg #[.slice ax (splA at_ ps).length cx], .agg #[.slice ay (splZ at_ ps).length cy], .bool true]) ∧ OB w' w.heap.size ax cx (splA at_ ps) ∧ OB w' w.heap.size ay cy (splZ at_ ps)) ∧ Below w.heap.size w w' :=
  (sBoxSplitO wd at_ av cv ps w O.inRow (by omega)).mono fun e w' k => ⟨k.1.isYes h, k.2⟩
variable (gc gd : Int) (hg : (-9223372036854775808 ≤ gc ∧ gc ≤ 9223372036854775807) ∧ -9223372036854775808 ≤ gd ∧ gd ≤ 9223372036854775807)
include hg
theorem iCutNo (h : cutR wd at_ gc gd ps = false) : Calls Try.prog 23 #[.int .i64 wd, .agg #[.slice av ps.length cv], .int .i64 at_, .agg #[.int .i64 gc, .int .i64 gd]] w fun e w' => (∃ ax cx ay cy, e = .returned (.tuple #[.agg #[.slice ax 0 cx], .agg #[.slice ay 0 cy], .bool false])) ∧ Below w.heap.size w w' :=
  (iBoxCutO wd at_ gc gd hg.1 hg.2 av cv ps w O.inRow (by omega)).mono fun e w' k => ⟨k.1.isNo h, k.2⟩
theorem iCutYes (h : cutR wd at_ gc gd ps = true) : Calls Try.prog 23 #[.int .i64 wd, .agg #[.slice av ps.length cv], .int .i64 at_, .agg #[.int .i64 gc, .int .i64 gd]] w fun e w' => (∃ ax cx ay cy, e = .returned (.tuple #[.agg #[.slice ax (cutA at_ gc gd ps).length cx], .agg #[.slice ay (cutZ at_ gc gd ps).length cy], .bool true]) ∧ OB w' w.heap.size ax cx (cutA at_ gc gd ps) ∧ OB w' w.heap.size ay cy (cutZ at_ gc gd ps)) ∧ Below w.heap.size w w' :=
  (iBoxCutO wd at_ gc gd hg.1 hg.2 av cv ps w O.inRow (by omega)).mono fun e w' k => ⟨k.1.isYes h, k.2⟩
theorem sCutNo (h : cutR wd at_ gc gd ps = false) : Calls Try.prog 24 #[.int .i64 wd, .agg #[.slice av ps.length cv], .int .i64 at_, .agg #[.int .i64 gc, .int .i64 gd]] w fun e w' => (∃ ax cx ay cy, e = .returned (.tuple #[.agg #[.slice ax 0 cx], .agg #[.slice ay 0 cy], .bool false])) ∧ Below w.heap.size w w' :=
  (sBoxCutO wd at_ gc gd hg.1 hg.2 av cv ps w O.inRow (by omega)).mono fun e w' k => ⟨k.1.isNo h, k.2⟩
theorem sCutYes (h : cutR wd at_ gc gd ps = true) : Calls Try.prog 24 #[.int .i64 wd, .agg #[.slice av ps.length cv], .int .i64 at_, .agg #[.int .i64 gc, .int .i64 gd]] w fun e w' => (∃ ax cx ay cy, e = .returned (.tuple #[.agg #[.slice ax (cutA at_ gc gd ps).length cx], .agg #[.slice ay (cutZ at_ gc gd ps).length cy], .bool true]) ∧ OB w' w.heap.size ax cx (cutA at_ gc gd ps) ∧ OB w' w.heap.size ay cy (cutZ at_ gc gd ps)) ∧ Below w.heap.size w w' :=
  (sBoxCutO wd at_ gc gd hg.1 hg.2 av cv ps w O.inRow (by omega)).mono fun e w' k => ⟨k.1.isYes h, k.2⟩
end
section
variable (wd : Int) (av : Option Addr) (cv base : Nat) (ps : List (Int × Int)) (w : World) (O : OB w base av cv ps)
include O
theorem iUnitsV (r : Int) (h : unitsRow wd ps = r) : Calls Try.prog 16 #[.int .i64 wd, .agg #[.slice av ps.length cv]] w fun e w' => e = .returned (.int .i64 r) ∧ Below w.heap.size w w' := by
  subst h; exact iUnitsO wd av cv base ps w O
theorem iPathV (r : Int) (h : pathRow wd ps = r) : Calls Try.prog 17 #[.int .i64 wd, .agg #[.slice av ps.length cv]] w fun e w' => e = .returned (.int .i64 r) ∧ Below w.heap.size w w' := by
  subst h; exact iPathO wd av cv base ps w O
end
theorem three_oldH {w' w'' : World} {b b' b'' : Nat} {v0 v1 v2 : Value} (h : w'.cell? ⟨b, 0, none⟩ = some v0 ∧ w'.cell? ⟨b', 0, none⟩ = some v1 ∧ w'.cell? ⟨b'', 0, none⟩ = some v2) (k : Below w'.heap.size w' w'') :
    w''.cell? ⟨b, 0, none⟩ = some v0 ∧ w''.cell? ⟨b', 0, none⟩ = some v1 ∧ w''.cell? ⟨b'', 0, none⟩ = some v2 := by
  obtain ⟨a1, a2, a3⟩ := h
  exact ⟨(k.cell (World.block_lt_of_cell? _ _ a1)).trans a1, (k.cell (World.block_lt_of_cell? _ _ a2)).trans a2, (k.cell (World.block_lt_of_cell? _ _ a3)).trans a3⟩
theorem spl_len (at_ : Int) (ps : List (Int × Int)) : (splA at_ ps).length = ps.length ∧ (splZ at_ ps).length = ps.length := by unfold splA splZ; simp
theorem cut_len (at_ gc gd : Int) (ps : List (Int × Int)) : (cutA at_ gc gd ps).length = ps.length ∧ (cutZ at_ gc gd ps).length = ps.length := by unfold cutA cutZ; simp
end Go.Proofs.Ytpnfkigeagbhpaa
