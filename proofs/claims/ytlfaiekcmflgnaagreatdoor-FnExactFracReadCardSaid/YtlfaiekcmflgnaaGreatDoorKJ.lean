/- Fractions read: how a text is taken apart, and what it then says. Mathematics, and the program's means to take it apart. -/
import Derived.Test.YtlfaiekcmflgnaaGreatDoorKI
import Derived.Test.YtlfaiekcmflgnaaGreatDoorKT
import Derived.Test.YtlfaiekcmflgnaaGreatDoorFK
import Derived.Test.YtlfaiekcmflgnaaGreatDoorNL
namespace Go.Proofs.YtlfaiekcmflgnaaGreatDoor
open Go.RowKit Go.Lib
set_option linter.unusedVariables false
set_option maxRecDepth 100000

/-- whether a text begins with the sign -/
def bmin (l : List UInt8) : Bool := hasPrefix l [45]
def rst (l : List UInt8) : List UInt8 := if bmin l then l.drop 1 else l
theorem bmin_nil : bmin [] = false := rfl
theorem bmin_cons (b : UInt8) (t : List UInt8) : bmin (b :: t) = (45 == b) := by simp [bmin, hasPrefix, List.isPrefixOf]
/-- where the stroke stands; -1, if there is none -/
def stk (l : List UInt8) : Int := indexByte l 47
theorem stk_at : ∀ (l : List UInt8) (n : Nat), n < l.length → (∀ i, i < n → l.getD i 0 ≠ 47) → l.getD n 0 = 47 → stk l = (n : Int) := by
  intro l
  induction l with
  | nil => intro n h; simp at h
  | cons b t ih =>
    intro n hn hb hc
    unfold stk indexByte
    cases n with
    | zero =>
      have : b = 47 := hc
      subst this; rfl
    | succ n =>
      have h0 : b ≠ 47 := hb 0 (by omega)
      have h1 := ih n (by simpa using hn) (fun i hi => hb (i + 1) (by omega)) hc
      unfold stk at h1
      rw [if_neg (by simpa using h0), h1, if_neg (by simp)]
      omega
theorem stk_no : ∀ (l : List UInt8), (∀ i, i < l.length → l.getD i 0 ≠ 47) → stk l = -1 := by
  intro l
  induction l with
  | nil => intro _; rfl
  | cons b t ih =>
    intro hb
    have h0 : b ≠ 47 := hb 0 (by simp)
    have h1 := ih (fun i hi => hb (i + 1) (by simpa using hi))
    unfold stk at h1 ⊢
    unfold indexByte
    rw [if_neg (by simpa using h0), h1]; rfl
theorem stk_cases (l : List UInt8) : stk l = -1 ∨ ∃ n : Nat, n < l.length ∧ stk l = (n : Int) := by
  induction l with
  | nil => left; rfl
  | cons b t ih =>
    unfold stk indexByte
    by_cases h : b = 47
    · right; subst h; exact ⟨0, by simp, rfl⟩
    · rw [if_neg (by simpa using h)]
      rcases ih with h1 | ⟨n, hn, h1⟩
      · left; unfold stk at h1; rw [h1]; rfl
      · right
        unfold stk at h1
        refine ⟨n + 1, by simpa using hn, ?_⟩
        rw [h1, if_neg (by simp)]; omega
/-- what a sign, a top and a bottom (whether a stroke stood or not) say -/
def okR (b st : Bool) (t u : List UInt8) : Bool := rdB (bt t) && (rdB (bt u) && (fracOk b (natL (nv (bt t) t.length)) (natL (nv (bt u) u.length)) && !(st && decide (nv (bt u) u.length = 1))))
def partsR (l : List UInt8) : Bool × List UInt8 × List UInt8 := if stk l < 0 then (false, l, [49]) else (true, l.take (stk l).toNat, l.drop ((stk l).toNat + 1))
def okFR (l : List UInt8) : Bool := okR (bmin l) (partsR (rst l)).1 (partsR (rst l)).2.1 (partsR (rst l)).2.2
def topFR (l : List UInt8) : Nat := nv (bt (partsR (rst l)).2.1) (partsR (rst l)).2.1.length
def botFR (l : List UInt8) : Nat := nv (bt (partsR (rst l)).2.2) (partsR (rst l)).2.2.length
theorem rd_list {t : List UInt8} (h : rdB (bt t) = true) : decDigits (nv (bt t) t.length) = t := by
  have e := dec_back h
  rw [bt_size] at e
  have := congrArg (fun z => z.data.toList) e
  simpa [bt] using this
theorem rd_ne {t : List UInt8} (h : rdB (bt t) = true) : t ≠ [] := fun e => by
  have := rd_list h
  rw [e] at this
  exact dec_ne _ this
/-- the text of what was read is the text that was read, just where it is a fraction and 1 is not written as a bottom -/
theorem text_is {b st : Bool} {t u : List UInt8} (h1 : rdB (bt t) = true) (h2 : rdB (bt u) = true) (h3 : st = false → u = [49]) :
    (frT b (natL (nv (bt t) t.length)) (natL (nv (bt u) u.length)) = bt ((if b then [45] else []) ++ (t ++ (if st then 47 :: u else [])))) ↔ (fracOk b (natL (nv (bt t) t.length)) (natL (nv (bt u) u.length)) && !(st && decide (nv (bt u) u.length = 1))) = true := by
  have e1 := rd_list h1
  have e2 := rd_list h2
  have n1 := rd_ne h1
  generalize nv (bt t) t.length = V at *
  generalize nv (bt u) u.length = U at *
  cases hf : fracOk b (natL V) (natL U)
  · rw [frT_no hf]
    simp only [Bool.false_and, Bool.false_eq_true, iff_false]
    intro h
    have := congrArg (fun z => z.data.toList) h
    simp [bt] at this
    exact n1 this.2.1
  · rw [frT_yes hf, val_natL, val_natL]
    unfold frL
    rw [e1, e2]
    have inj : ∀ l m : List UInt8, bt l = bt m ↔ l = m := fun l m => ⟨fun h => by have := congrArg (fun z => z.data.toList) h; simpa [bt] using this, fun h => by rw [h]⟩
    rw [inj]
    cases st
    · have hu : U = 1 := by
        have hu := h3 rfl
        rw [hu] at e2
        have := nv_dec U
        rw [e2] at this
        rw [← this]
        exact nv_one 49
      rw [if_pos hu]
      simp
    · by_cases hu : U = 1
      · rw [if_pos hu]
        simp [hu]
      · rw [if_neg hu]
        simp [hu]
end Go.Proofs.YtlfaiekcmflgnaaGreatDoor
