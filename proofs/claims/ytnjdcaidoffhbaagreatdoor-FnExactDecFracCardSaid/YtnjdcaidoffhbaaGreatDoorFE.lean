/- Whether a fraction is in lowest terms, and its sign: by the program and by the specification; a law's own comparison of fractions. Conditions, of the program: the library's table and its handle of errors hold what their texts lay. -/
import Derived.Test.YtnjdcaidoffhbaaGreatDoorBK
import Derived.Test.YtnjdcaidoffhbaaGreatDoorBH
namespace Go.Proofs.YtnjdcaidoffhbaaGreatDoor
open Go.RowKit
set_option linter.unusedVariables false
set_option maxRecDepth 100000

theorem natL_single {g : Nat} (h : (natL g).length = 1) : natL g = [((g : Nat) : Int)] := by
  by_cases h0 : g = 0
  · subst h0; rw [natL_zero] at h; simp at h
  rw [natL, dif_neg h0] at h ⊢
  simp only [List.length_cons] at h
  have h1 : g / 65536 = 0 := natL_len0 (by omega)
  rw [h1, natL_zero]
  have : g % 65536 = g := by omega
  rw [this]
def signI (ok bl : Bool) (len : Nat) : Int := if ok = true ∧ len ≠ 0 then (if bl = true then -1 else 1) else 0
set_option maxHeartbeats 2000000 in
theorem lEqF (bl : Bool) (a b a' b' : Option Addr) (ca cb ca' cb' : Nat) (n n' m m' : Nat) (xs ys : List Int) (w : World) (hA : OI w n a ca xs) (hB : OI w n' b cb ys) (hA' : OI w m a' ca' xs) (hB' : OI w m' b' cb' ys) :
    Calls Tryz.prog 6 #[.agg #[.bool bl, .slice a xs.length ca, .slice b ys.length cb], .agg #[.bool bl, .slice a' xs.length ca', .slice b' ys.length cb']] w fun e w' => e = .returned (.bool true) ∧ Below w.heap.size w w' := by
  have e0 : Below w.heap.size w ((w.alloc (.cells #[.bool bl, .slice a xs.length ca, .slice b ys.length cb] 24)).alloc (.cells #[.bool bl, .slice a' xs.length ca', .slice b' ys.length cb'] 24)) := (by repeat (first | exact Below.refl _ _ | refine Below.drew ?_ | refine old_alloc ?_ _ | refine old_trans ?_ (by assumption)))
  have E1 := hd (lEqO a a' ca ca' n m xs _ (hA.later e0) (hA'.later e0))
  have E2 := hd (fun w' (h : Below w.heap.size w w') => lEqO b b' cb cb' n' m' ys w' (hB.later h) (hB'.later h))
  have K1 := (Cel3.new w (.bool bl) (.slice a xs.length ca) (.slice b ys.length cb) 24).old (old_alloc (Below.refl _ _) (.cells #[.bool bl, .slice a' xs.length ca', .slice b' ys.length cb'] 24))
  have K2 := Cel3.new (w.alloc (.cells #[.bool bl, .slice a xs.length ca, .slice b ys.length cb] 24)) (.bool bl) (.slice a' xs.length ca') (.slice b' ys.length cb') 24
  simp only [World.size_alloc] at K2
  clear hA hB hA' hB'
  go_enter Tryz.func6, Tryz.ntmps6
  go_wp2_with fail
  refine E1.out.mono ?_
  rintro e w1 ⟨rfl, hb1⟩
  obtain ⟨k1, ⟨k2, k3, k4⟩, -⟩ := K1.old hb1
  obtain ⟨m1, ⟨m2, m3, m4⟩, -⟩ := K2.old hb1
  go_wp2_with fail
  refine (E2.out _ (old_trans e0 hb1)).mono ?_
  rintro e w2 ⟨rfl, hb2⟩
  go_wp2
  go_ret
  exact ⟨rfl, old_trans (old_trans e0 hb1) hb2⟩
end Go.Proofs.YtnjdcaidoffhbaaGreatDoor
