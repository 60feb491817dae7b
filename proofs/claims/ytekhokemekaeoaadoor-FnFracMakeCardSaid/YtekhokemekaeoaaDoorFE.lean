/- Whether a fraction is in lowest terms, and its sign: by the program and by the specification; a law's own comparison of fractions. Conditions, of the program: the library's table and its handle of errors hold what their texts lay. -/
import Derived.Test.YtekhokemekaeoaaDoorBK
import Derived.Test.YtekhokemekaeoaaDoorBH
namespace Go.Proofs.YtekhokemekaeoaaDoor
open Go.RowKit
set_option linter.unusedVariables false
set_option maxRecDepth 100000

theorem natL_single {g : Nat} (h : (natL g).length = 1) : natL g = [((g : Nat) : Int)] := by
  by_cases h0 : g = 0
  · subst h0; rw [natL_zero] at h; simp at h
  rw [natL, dif_neg h0] at h ⊢
  simp only [List.length_cons] at h
  have h1 : g / 65536 = 0 := natL_len0 (by omega)
  rw [h1, natL_zero]
  have : g % 65536 = g := by omega
  rw [this]
set_option maxHeartbeats 2000000 in
theorem iFracOk (bl : Bool) (a b : Option Addr) (la lb ca cb : Nat) (xs ys : List Int) (w : World) (hA : InI w a la ca xs) (hB : InI w b lb cb ys) (hT : Tab w) (hE : ET w) :
    Calls Tryd.prog 8 #[.agg #[.bool bl, .slice a la ca, .slice b lb cb]] w fun e w' => e = .returned (.bool (fracOk bl xs ys)) ∧ Below w.heap.size w w' := by
  have e0 : Below w.heap.size w (w.alloc (.cells #[.bool bl, .slice a la ca, .slice b lb cb] 25)) := (by repeat (first | exact Below.refl _ _ | refine Below.drew ?_ | refine old_alloc ?_ _ | refine old_trans ?_ (by assumption)))
  have R := hd (iRatioOf bl a b la lb ca cb xs ys _ (hA.old e0) (hB.old e0) (hT.old e0))
  have F1 := hd (fun s w' (h : Below w.heap.size w w') => iFault s w' (hE.old h))
  have F0 := hd iNoFault
  go_enter Tryd.func8, Tryd.ntmps8
  go_wp2_with fail
  refine R.out.mono ?_
  rintro e w1 ⟨he, hb1⟩
  have hB1 := old_trans e0 hb1
  rcases he with ⟨hf, rfl⟩ | ⟨hf, s, rfl⟩
  · have hf' := hd hf
    have hB2 := old_alloc hB1 (.cells #[.bool bl, .slice a la ca, .slice b lb cb] 52)
    clear hf
    go_wp2_with fail
    refine (F0.out _).mono ?_
    rintro e w2 ⟨rfl, hb2⟩
    go_wp2
    go_ret
    exact ⟨retB hf'.out, old_trans hB2 hb2⟩
  · have hf' := hd hf
    have hB2 := old_alloc hB1 (.cells #[.bool false, .slice none 0 0, .slice none 0 0] 52)
    clear hf
    go_wp2_with fail
    refine (F1.out _ _ hB2).mono ?_
    rintro e w2 ⟨rfl, hb2⟩
    go_wp2
    go_ret
    exact ⟨retB hf'.out, old_trans hB2 hb2⟩
def signI (ok bl : Bool) (len : Nat) : Int := if ok = true ∧ len ≠ 0 then (if bl = true then -1 else 1) else 0
end Go.Proofs.YtekhokemekaeoaaDoor
