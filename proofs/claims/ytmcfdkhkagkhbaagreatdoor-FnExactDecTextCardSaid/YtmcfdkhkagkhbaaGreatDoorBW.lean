/- Texts of fractions, by the program and by the specification: one text. Conditions, for the program: the library's tables and its handle of errors are there. Nothing that was there is written. -/
import Derived.Test.YtmcfdkhkagkhbaaGreatDoorBZ
import Derived.Test.YtmcfdkhkagkhbaaGreatDoorFE
namespace Go.Proofs.YtmcfdkhkagkhbaaGreatDoor
open Go.RowKit Go.Lib
set_option linter.unusedVariables false
set_option maxRecDepth 100000

theorem bt_app (l m : List UInt8) : bt l ++ bt m = bt (l ++ m) := by
  apply ByteArray.ext
  rw [ByteArray.data_append]
  simp [bt]
/-- the text of a fraction -/
def frL (bl : Bool) (V U : Nat) : List UInt8 := (if bl then [45] else []) ++ (decDigits V ++ (if U = 1 then [] else 47 :: decDigits U))
def frT (bl : Bool) (xs ys : List Int) : ByteArray := if fracOk bl xs ys then bt (frL bl (val xs) (val ys)) else bt []
theorem cmp_one (U : Nat) : (cmpI U 1 = 0) ↔ U = 1 := by unfold cmpI; split <;> (try split) <;> omega
theorem fr_one (V : Nat) : bt (frL false V 1) = bt (decDigits V) := by simp [frL]
theorem fr_oneM (V : Nat) : bt (frL true V 1) = bt [45] ++ bt (decDigits V) := by rw [bt_app]; simp [frL]
theorem fr_two {U : Nat} (V : Nat) (h : U ≠ 1) : bt (frL false V U) = bt (decDigits V) ++ (bt [47] ++ bt (decDigits U)) := by rw [bt_app, bt_app]; simp [frL, h]
theorem fr_twoM {U : Nat} (V : Nat) (h : U ≠ 1) : bt (frL true V U) = (bt [45] ++ bt (decDigits V)) ++ (bt [47] ++ bt (decDigits U)) := by rw [bt_app, bt_app, bt_app]; simp [frL, h]
theorem fr_two' {U : Nat} (V : Nat) (h : U ≠ 1) : bt (frL false V U) = (bt (decDigits V) ++ bt [47]) ++ bt (decDigits U) := by rw [bt_app, bt_app]; simp [frL, h]
theorem fr_twoM' {U : Nat} (V : Nat) (h : U ≠ 1) : bt (frL true V U) = ((bt [45] ++ bt (decDigits V)) ++ bt [47]) ++ bt (decDigits U) := by rw [bt_app, bt_app, bt_app]; simp [frL, h]
theorem Cel3.drewT {w : World} {b : Nat} {v0 v1 v2 : Value} (h : Cel3 w b v0 v1 v2) : Cel3 w.drew b v0 v1 v2 := h
theorem retS {s t : ByteArray} (h : t = s) : Ending.returned (.string s) = Ending.returned (.string t) := by rw [h]
end Go.Proofs.YtmcfdkhkagkhbaaGreatDoor

/- FracText of the program and of the specification: one text. Conditions, for the program: the library's tables and its handle of errors are there. Nothing that was there is written. -/
namespace Go.Proofs.YtmcfdkhkagkhbaaGreatDoor
open Go.RowKit Go.Lib
set_option linter.unusedVariables false
set_option maxRecDepth 100000

theorem frT_no {bl : Bool} {xs ys : List Int} (h : fracOk bl xs ys = false) : frT bl xs ys = ⟨#[]⟩ := by unfold frT; rw [h]; rfl
theorem frT_yes {bl : Bool} {xs ys : List Int} (h : fracOk bl xs ys = true) : frT bl xs ys = bt (frL bl (val xs) (val ys)) := by unfold frT; rw [h]; rfl
end Go.Proofs.YtmcfdkhkagkhbaaGreatDoor
