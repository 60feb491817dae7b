/- A fraction whose top and bottom are taken times a number, in lowest terms again. Conditions, of the program: the library's table and its handle of errors hold what their texts lay. -/
import Derived.Test.YtekhokemekaeoaaDoorUV
import Derived.Test.YtekhokemekaeoaaDoorBB
import Derived.Test.YtekhokemekaeoaaDoorFI
import Derived.Test.YtekhokemekaeoaaDoorFE
namespace Go.Proofs.YtekhokemekaeoaaDoor
open Go.RowKit
set_option linter.unusedVariables false
set_option maxRecDepth 100000

theorem mulB_in {xs zs : List Int} (h : mulB xs zs = true) : natOk xs = true ∧ natOk zs = true ∧ (natL (val xs * val zs)).length ≤ 256 := by
  unfold mulB fitsB at h
  simp only [Bool.and_eq_true, decide_eq_true_eq] at h
  exact h
theorem okLn {X : Nat} (h : (natL X).length ≤ 256) : natOk (natL X) = true := natOk_natL (natL_len.1 h)
theorem mk_ok {b : Bool} {xs ys zs : List Int} (hf : fracOk b xs ys = true) (hx : mulB xs zs = true) (hy : mulB ys zs = true) (hz : val zs ≠ 0) : ofB (natL (val xs * val zs)) (natL (val ys * val zs)) = true ∧ fT true (val xs * val zs) (val ys * val zs) = xs ∧ fU true (val xs * val zs) (val ys * val zs) = ys ∧ fS true b (val xs * val zs) = b := by
  have q := fracOk_in hf
  have p1 := mulB_in hx
  have p2 := mulB_in hy
  have c1 := natOk_canon q.1
  have c2 := natOk_canon q.2.1
  have hzp := Nat.pos_of_ne_zero hz
  have hg : Nat.gcd (val xs * val zs) (val ys * val zs) = val zs := by rw [Nat.gcd_mul_right, q.2.2.2.1, Nat.one_mul]
  have t1 : lowT (val xs * val zs) (val ys * val zs) = xs := by unfold lowT; rw [hg, Nat.mul_div_cancel _ hzp, c1]
  have t2 : lowU (val xs * val zs) (val ys * val zs) = ys := by unfold lowU; rw [hg, Nat.mul_div_cancel _ hzp, c2]
  have hyv : val ys ≠ 0 := by
    intro e
    rw [e, natL_zero] at c2
    exact q.2.2.1 (by rw [← c2]; rfl)
  refine ⟨?_, t1, t2, ?_⟩
  · unfold ofB
    rw [okLn p1.2.2, okLn p2.2.2, val_natL, val_natL]
    exact lowB_mk (Nat.mul_ne_zero hyv hz) (by rw [t1]; exact (natOk_in q.1).1) (by rw [t2]; exact (natOk_in q.2.1).1)
  · unfold fS
    cases b
    · rfl
    · have hxv : val xs ≠ 0 := by
        intro e
        rw [e, natL_zero] at c1
        exact q.2.2.2.2 ⟨rfl, by rw [← c1]; rfl⟩
      rw [decide_eq_true (Nat.mul_ne_zero hxv hz)]
      rfl
theorem mk_no {xs ys zs : List Int} (hz : val zs = 0) : ofB (natL (val xs * val zs)) (natL (val ys * val zs)) = false := by
  rw [hz, Nat.mul_zero, Nat.mul_zero]
  unfold ofB
  rw [val_natL]
  have : lowB 0 0 = false := lowB_no (fun h => h.1 rfl)
  rw [this]
  cases natOk (natL 0) <;> rfl
theorem mFracOf {b : Bool} {xs ys zs : List Int} (hf : fracOk b xs ys = true) (hx : mulB xs zs = true) (hy : mulB ys zs = true) (hz : val zs ≠ 0) (a a' : Option Addr) (ca cb : Nat) (w : World) (hA : InI w a (natL (val xs * val zs)).length ca (natL (val xs * val zs))) (hB : InI w a' (natL (val ys * val zs)).length cb (natL (val ys * val zs))) (hT : Tab w ∧ ET w) :
    Calls Tryd.prog 7 #[.bool b, .slice a (natL (val xs * val zs)).length ca, .slice a' (natL (val ys * val zs)).length cb] w fun e w' => (∃ av cv av' cv', e = .returned (.tuple #[.agg #[.bool b, .slice av xs.length cv, .slice av' ys.length cv'], .bool true]) ∧ OI w' w.heap.size av cv xs ∧ OI w' w.heap.size av' cv' ys) ∧ Below w.heap.size w w' := by
  have h := iFracOf b a a' _ _ ca cb _ _ w hA hB hT.1 hT.2
  have q := mk_ok hf hx hy hz
  rw [val_natL, val_natL, q.1] at h
  refine h.mono ?_
  rintro e w' ⟨⟨av, cv, av', cv', h1, h2, h3, -⟩, h4⟩
  rw [q.2.1] at h1 h2
  rw [q.2.2.1] at h1 h3
  rw [q.2.2.2] at h1
  exact ⟨⟨av, cv, av', cv', h1, h2, h3⟩, h4⟩
theorem mFracOfN {b : Bool} {xs ys zs : List Int} (hz : val zs = 0) (a a' : Option Addr) (ca cb : Nat) (w : World) (hA : InI w a (natL (val xs * val zs)).length ca (natL (val xs * val zs))) (hB : InI w a' (natL (val ys * val zs)).length cb (natL (val ys * val zs))) (hT : Tab w ∧ ET w) :
    Calls Tryd.prog 7 #[.bool b, .slice a (natL (val xs * val zs)).length ca, .slice a' (natL (val ys * val zs)).length cb] w fun e w' => (∃ av cv av' cv', e = .returned (.tuple #[.agg #[.bool false, .slice av 0 cv, .slice av' 0 cv'], .bool false])) ∧ Below w.heap.size w w' := by
  have h := iFracOf b a a' _ _ ca cb _ _ w hA hB hT.1 hT.2
  rw [mk_no hz] at h
  refine h.mono ?_
  rintro e w' ⟨⟨av, cv, av', cv', h1, h2, h3, -⟩, h4⟩
  exact ⟨⟨av, cv, av', cv', h1⟩, h4⟩
theorem mFracOk {b : Bool} {xs ys : List Int} (hf : fracOk b xs ys = true) (a a' : Option Addr) (la lb ca cb : Nat) (w : World) (hA : InI w a la ca xs) (hB : InI w a' lb cb ys) (hT : Tab w ∧ ET w) :
    Calls Tryd.prog 8 #[.agg #[.bool b, .slice a la ca, .slice a' lb cb]] w fun e w' => e = .returned (.bool true) ∧ Below w.heap.size w w' := by
  have h := iFracOk b a a' la lb ca cb xs ys w hA hB hT.1 hT.2
  rw [hf] at h
  exact h
end Go.Proofs.YtekhokemekaeoaaDoor
