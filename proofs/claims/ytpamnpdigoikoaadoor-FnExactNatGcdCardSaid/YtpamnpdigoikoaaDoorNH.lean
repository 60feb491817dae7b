/- Comparing numbers, by the program and by the specification. No condition. -/
import Derived.Test.YtpamnpdigoikoaaDoorNG
namespace Go.Proofs.YtpamnpdigoikoaaDoor
open Go.RowKit
set_option linter.unusedVariables false
set_option maxRecDepth 100000

theorem cmpZ_lt {x y : Int} (h : x < y) : cmpZ x y = -1 := by unfold cmpZ; rw [if_pos h]
theorem cmpZ_gt {x y : Int} (h : y < x) : cmpZ x y = 1 := by unfold cmpZ; rw [if_neg (by omega), if_pos h]
set_option maxHeartbeats 2000000 in
theorem iAgainst (a b : Option Addr) (la lb ca cb : Nat) (xs ys : List Int) (w : World) (hA : InI w a la ca xs) (hB : InI w b lb cb ys) (hx : digs xs) (hy : digs ys) (tx : topped xs) (ty : topped ys) :
    Calls Tryd.prog 84 #[.slice a la ca, .slice b lb cb] w fun e w' => e = .returned (.int .i64 (cmpI (val xs) (val ys))) ∧ Below w.heap.size w w' := by
  by_cases h : la = lb
  · subst h
    exact iAgainstSame a b la ca cb xs ys w hA hB hx hy
  have pa := hA.1
  have pb := hB.1
  have hla := hA.len
  have hlb := hB.len
  have hc : cmpI (val xs) (val ys) = cmpZ (la : Int) (lb : Int) := by
    rcases Nat.lt_or_ge la lb with g | g
    · rw [cmpI_lt (val_shorter hx hy ty (by omega)), cmpZ_lt (by omega)]
    · rw [cmpI_gt (val_shorter hy hx tx (by omega)), cmpZ_gt (by omega)]
  rw [hc]
  have C := hd (compareI (la : Int) (lb : Int))
  have hne : ((la : Int) != (lb : Int)) = true := by simp; omega
  generalize cmpZ (la : Int) (lb : Int) = r at *
  have b2 := Boxed.new (w.alloc (.cells #[.slice b lb cb] 57)) 3 (.int .i64 0)
  have hB0 : Below w.heap.size w ((w.alloc (.cells #[.slice b lb cb] 57)).alloc (.cells #[.int .i64 0] 3)) := ((Below.refl _ w).alloc (Nat.le_refl _) _).alloc (by simp) _
  simp only [World.size_alloc] at b2
  have c2 := b2.cell
  have f2 := b2.frozen
  go_enter Tryd.func84, Tryd.ntmps84
  go_wp2_with fail
  refine (C.out _).mono ?_
  rintro e w1 ⟨rfl, rfl⟩
  go_wp2
  refine bodyPost_ret (v := .int .i64 r) ?_ rfl ⟨rfl, ((Below.refl _ w).alloc (Nat.le_refl _) _).alloc (by simp) _⟩
  simp [results, Tryd.results84, go_sem]
def ncmp (xs ys : List Int) : Int := if natOk xs && natOk ys then cmpI (val xs) (val ys) else 2
end Go.Proofs.YtpamnpdigoikoaaDoor
