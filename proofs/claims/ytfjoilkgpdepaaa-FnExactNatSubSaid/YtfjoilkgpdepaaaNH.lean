/- Comparing numbers, by the program and by the specification. No condition. -/
import Derived.Test.YtfjoilkgpdepaaaNG
namespace Go.Proofs.Ytfjoilkgpdepaaa
open Go.RowKit
set_option linter.unusedVariables false

theorem cmpZ_lt {x y : Int} (h : x < y) : cmpZ x y = -1 := by unfold cmpZ; rw [if_pos h]
theorem cmpZ_gt {x y : Int} (h : y < x) : cmpZ x y = 1 := by unfold cmpZ; rw [if_neg (by omega), if_pos h]
set_option maxHeartbeats 2000000 in
theorem iAgainst (a b : Option Addr) (la lb ca cb : Nat) (xs ys : List Int) (w : World) (hA : InI w a la ca xs) (hB : InI w b lb cb ys) (hx : digs xs) (hy : digs ys) (tx : topped xs) (ty : topped ys) :
    Calls Try.prog 39 #[.slice a la ca, .slice b lb cb] w fun e w' => e = .returned (.int .i64 (cmpI (val xs) (val ys))) ∧ Below w.heap.size w w' := by
  by_cases h : la = lb
  · subst h
    exact iAgainstSame a b la ca cb xs ys w hA hB hx hy
  have pa := hA.1
  have pb := hB.1
  have hla := hA.len
  have hlb := hB.len
  have hc : cmpI (val xs) (val ys) = cmpZ (la : Int) (lb : Int) := by
    rcases Nat.lt_or_ge la lb with g | g
    · rw [cmpI_lt (val_shorter hx hy ty (by omega)), cmpZ_lt (by omega)]
    · rw [cmpI_gt (val_shorter hy hx tx (by omega)), cmpZ_gt (by omega)]
  rw [hc]
  have C := hd (compareI (la : Int) (lb : Int))
  have hne : ((la : Int) != (lb : Int)) = true := by simp; omega
  generalize cmpZ (la : Int) (lb : Int) = r at *
  have b2 := Boxed.new (w.alloc (.cells #[.slice b lb cb] 45)) 3 (.int .i64 0)
  have hB0 : Below w.heap.size w ((w.alloc (.cells #[.slice b lb cb] 45)).alloc (.cells #[.int .i64 0] 3)) := ((Below.refl _ w).alloc (Nat.le_refl _) _).alloc (by simp) _
  simp only [World.size_alloc] at b2
  have c2 := b2.cell
  have f2 := b2.frozen
  go_enter Try.func39, Try.ntmps39
  go_wp2_with fail
  refine (C.out _).mono ?_
  rintro e w1 ⟨rfl, rfl⟩
  go_wp2
  refine bodyPost_ret (v := .int .i64 r) ?_ rfl ⟨rfl, ((Below.refl _ w).alloc (Nat.le_refl _) _).alloc (by simp) _⟩
  simp [results, Try.results39, go_sem]
def ncmp (xs ys : List Int) : Int := if natOk xs && natOk ys then cmpI (val xs) (val ys) else 2
set_option maxHeartbeats 2000000 in
theorem iNatCmp (a b : Option Addr) (la lb ca cb : Nat) (xs ys : List Int) (w : World) (hA : InI w a la ca xs) (hB : InI w b lb cb ys) :
    Calls Try.prog 16 #[.slice a la ca, .slice b lb cb] w fun e w' => e = .returned (.int .i64 (ncmp xs ys)) ∧ Below w.heap.size w w' := by
  have K1 := hd (iNatOk a la ca xs w hA)
  have K2 := hd (iNatOk b lb cb ys w hB)
  cases h1 : natOk xs
  · have e : ncmp xs ys = 2 := by unfold ncmp; rw [h1]; rfl
    rw [e]
    rw [h1] at K1
    clear e h1
    go_enter Try.func16, Try.ntmps16
    go_wp2_with fail
    refine K1.out.mono ?_
    rintro e w1 ⟨rfl, rfl⟩
    go_wp2
    go_ret
    exact ⟨rfl, Below.refl _ _⟩
  rw [h1] at K1
  cases h2 : natOk ys
  · have e : ncmp xs ys = 2 := by unfold ncmp; rw [h1, h2]; rfl
    rw [e]
    rw [h2] at K2
    clear e h1 h2
    go_enter Try.func16, Try.ntmps16
    go_wp2_with fail
    refine K1.out.mono ?_
    rintro e w1 ⟨rfl, rfl⟩
    go_wp2_with fail
    refine K2.out.mono ?_
    rintro e w1 ⟨rfl, rfl⟩
    go_wp2
    go_ret
    exact ⟨rfl, Below.refl _ _⟩
  rw [h2] at K2
  have e : ncmp xs ys = cmpI (val xs) (val ys) := by unfold ncmp; rw [h1, h2]; rfl
  rw [e]
  have q1 := natOk_in h1
  have q2 := natOk_in h2
  have P := hd (iAgainst a b la lb ca cb xs ys w hA hB q1.2.1 q2.2.1 q1.2.2 q2.2.2)
  clear e h1 h2 q1 q2
  generalize cmpI (val xs) (val ys) = r at *
  go_enter Try.func16, Try.ntmps16
  go_wp2_with fail
  refine K1.out.mono ?_
  rintro e w1 ⟨rfl, rfl⟩
  go_wp2_with fail
  refine K2.out.mono ?_
  rintro e w1 ⟨rfl, rfl⟩
  go_wp2_with fail
  refine P.out.mono ?_
  rintro e w2 ⟨rfl, hb⟩
  go_wp2
  go_ret
  exact ⟨rfl, hb⟩
set_option maxHeartbeats 2000000 in
theorem sNatCmp (a b : Option Addr) (la lb ca cb : Nat) (xs ys : List Int) (w : World) (hA : InI w a la ca xs) (hB : InI w b lb cb ys) :
    Calls Try.prog 27 #[.slice a la ca, .slice b lb cb] w fun e w' => e = .returned (.int .i64 (ncmp xs ys)) ∧ Below w.heap.size w w' := by
  have K1 := hd (sNatOk a la ca xs w hA)
  have K2 := hd (sNatOk b lb cb ys w hB)
  cases h1 : natOk xs
  · have e : ncmp xs ys = 2 := by unfold ncmp; rw [h1]; rfl
    rw [e]
    rw [h1] at K1
    clear e h1
    go_enter Try.func27, Try.ntmps27
    go_wp2_with fail
    refine K1.out.mono ?_
    rintro e w1 ⟨rfl, rfl⟩
    go_wp2
    go_ret
    exact ⟨rfl, Below.refl _ _⟩
  rw [h1] at K1
  cases h2 : natOk ys
  · have e : ncmp xs ys = 2 := by unfold ncmp; rw [h1, h2]; rfl
    rw [e]
    rw [h2] at K2
    clear e h1 h2
    go_enter Try.func27, Try.ntmps27
    go_wp2_with fail
    refine K1.out.mono ?_
    rintro e w1 ⟨rfl, rfl⟩
    go_wp2_with fail
    refine K2.out.mono ?_
    rintro e w1 ⟨rfl, rfl⟩
    go_wp2
    go_ret
    exact ⟨rfl, Below.refl _ _⟩
  rw [h2] at K2
  have e : ncmp xs ys = cmpI (val xs) (val ys) := by unfold ncmp; rw [h1, h2]; rfl
  rw [e]
  have q1 := natOk_in h1
  have q2 := natOk_in h2
  have P := hd (sCmp a b la lb ca cb xs ys w hA hB q1.2.1 q2.2.1 q1.2.2 q2.2.2)
  clear e h1 h2 q1 q2
  generalize cmpI (val xs) (val ys) = r at *
  go_enter Try.func27, Try.ntmps27
  go_wp2_with fail
  refine K1.out.mono ?_
  rintro e w1 ⟨rfl, rfl⟩
  go_wp2_with fail
  refine K2.out.mono ?_
  rintro e w1 ⟨rfl, rfl⟩
  go_wp2_with fail
  refine P.out.mono ?_
  rintro e w2 ⟨rfl, hb⟩
  go_wp2
  go_ret
  exact ⟨rfl, hb⟩
end Go.Proofs.Ytfjoilkgpdepaaa
