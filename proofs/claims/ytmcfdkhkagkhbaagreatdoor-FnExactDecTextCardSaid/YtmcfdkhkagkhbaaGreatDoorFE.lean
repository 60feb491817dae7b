/- Whether a fraction is in lowest terms, and its sign: by the program and by the specification; a law's own comparison of fractions. Conditions, of the program: the library's table and its handle of errors hold what their texts lay. -/
import Derived.Test.YtmcfdkhkagkhbaaGreatDoorBK
import Derived.Test.YtmcfdkhkagkhbaaGreatDoorBH
namespace Go.Proofs.YtmcfdkhkagkhbaaGreatDoor
open Go.RowKit
set_option linter.unusedVariables false
set_option maxRecDepth 100000

theorem natL_single {g : Nat} (h : (natL g).length = 1) : natL g = [((g : Nat) : Int)] := by
  by_cases h0 : g = 0
  · subst h0; rw [natL_zero] at h; simp at h
  rw [natL, dif_neg h0] at h ⊢
  simp only [List.length_cons] at h
  have h1 : g / 65536 = 0 := natL_len0 (by omega)
  rw [h1, natL_zero]
  have : g % 65536 = g := by omega
  rw [this]
set_option maxHeartbeats 1000000 in
theorem sL6One (av : Option Addr) (cv g : Nat) (w : World) (h : InI w av (natL g).length cv (natL g)) :
    Calls Tryz.prog 23 #[.slice av (natL g).length cv] w fun e w' => e = .returned (.bool (decide (g = 1))) ∧ w' = w := by
  by_cases h1 : (natL g).length = 1
  · have e := natL_single h1
    obtain ⟨b, off, x, rfl, hbl, hx, -, c0⟩ := h.at (k := 0) (by omega)
    rw [Nat.add_zero] at c0
    rw [e] at hx
    obtain rfl : (g : Int) = x := by simpa using hx
    rw [h1]
    by_cases hg : g = 1
    · subst hg
      rw [decide_eq_true rfl]
      clear h e hx
      go_enter Tryz.func23, Tryz.ntmps23
      go_wp2
      go_ret
      exact ⟨rfl, rfl⟩
    · rw [decide_eq_false hg]
      have hg' : ((g : Int) == 1) = false := by simp; omega
      clear h e hx
      generalize (g : Int) = gI at *
      go_enter Tryz.func23, Tryz.ntmps23
      go_wp2
      go_ret
      exact ⟨rfl, rfl⟩
  · have hg : g ≠ 1 := by
      rintro rfl
      exact h1 (by rw [natL_one]; rfl)
    rw [decide_eq_false hg]
    have hl := h.len
    have hl' : (((natL g).length : Int) == 1) = false := by
      generalize (natL g).length = l at *
      simp; omega
    clear h
    generalize (natL g).length = l at *
    go_enter Tryz.func23, Tryz.ntmps23
    go_wp2
    go_ret
    exact ⟨rfl, rfl⟩
set_option maxHeartbeats 4000000 in
theorem sFracOk (bl : Bool) (a b : Option Addr) (la lb ca cb : Nat) (xs ys : List Int) (w : World) (hA : InI w a la ca xs) (hB : InI w b lb cb ys) :
    Calls Tryz.prog 10 #[.agg #[.bool bl, .slice a la ca, .slice b lb cb]] w fun e w' => e = .returned (.bool (fracOk bl xs ys)) ∧ Below w.heap.size w w' := by
  have e0 : Below w.heap.size w (w.alloc (.cells #[.bool bl, .slice a la ca, .slice b lb cb] 28)) := (by repeat (first | exact Below.refl _ _ | refine Below.drew ?_ | refine old_alloc ?_ _ | refine old_trans ?_ (by assumption)))
  have K1 := hd (sNatOk a la ca xs _ (hA.old e0))
  have K2 := hd (sNatOk b lb cb ys _ (hB.old e0))
  have hlA := hA.len
  have hlB := hB.len
  have pA := hA.1
  have pB := hB.1
  cases h1 : natOk xs
  · rw [h1] at K1
    rw [fracOk_no (fun h => by rw [h1] at h; exact absurd h.1 (by simp))]
    clear h1
    go_enter Tryz.func10, Tryz.ntmps10
    go_wp2_with fail
    refine K1.out.mono ?_
    rintro e w1 ⟨rfl, hw⟩
    obtain rfl := hw
    go_wp2
    go_ret
    exact ⟨rfl, e0⟩
  rw [h1] at K1
  cases h2 : natOk ys
  · rw [h2] at K2
    rw [fracOk_no (fun h => by rw [h2] at h; exact absurd h.2.1 (by simp))]
    clear h1 h2
    go_enter Tryz.func10, Tryz.ntmps10
    go_wp2_with fail
    refine K1.out.mono ?_
    rintro e w1 ⟨rfl, hw⟩
    obtain rfl := hw
    go_wp2_with fail
    refine K2.out.mono ?_
    rintro e w1 ⟨rfl, hw⟩
    obtain rfl := hw
    go_wp2
    go_ret
    exact ⟨rfl, e0⟩
  rw [h2] at K2
  by_cases h3 : lb = 0
  · rw [fracOk_no (fun h => h.2.2.1 (by omega))]
    subst h3
    clear h1 h2 pB
    go_enter Tryz.func10, Tryz.ntmps10
    go_wp2_with fail
    refine K1.out.mono ?_
    rintro e w1 ⟨rfl, hw⟩
    obtain rfl := hw
    go_wp2_with fail
    refine K2.out.mono ?_
    rintro e w1 ⟨rfl, hw⟩
    obtain rfl := hw
    go_wp2
    go_ret
    exact ⟨rfl, e0⟩
  have h3' := beqF (Nat.pos_of_ne_zero h3)
  by_cases h4 : bl = true ∧ la = 0
  · rw [fracOk_no (fun h => h.2.2.2.2 ⟨h4.1, by omega⟩)]
    obtain ⟨rfl, rfl⟩ := h4
    clear h1 h2 pA
    go_enter Tryz.func10, Tryz.ntmps10
    go_wp2_with fail
    refine K1.out.mono ?_
    rintro e w1 ⟨rfl, hw⟩
    obtain rfl := hw
    go_wp2_with fail
    refine K2.out.mono ?_
    rintro e w1 ⟨rfl, hw⟩
    obtain rfl := hw
    go_wp2
    go_ret
    exact ⟨rfl, e0⟩
  have q1 := natOk_in h1
  have q2 := natOk_in h2
  have G := hd (sGcd a b la lb ca cb xs ys _ (hA.old e0) (hB.old e0) q1.2.1 q2.2.1 (by omega) (by omega))
  have O := hd (fun av cv base w' (h : OI w' base av cv (natL (Nat.gcd (val xs) (val ys)))) => sL6One av cv _ w' h.inI)
  have hv : fracOk bl xs ys = decide (Nat.gcd (val xs) (val ys) = 1) := by
    by_cases hg : Nat.gcd (val xs) (val ys) = 1
    · rw [decide_eq_true hg]; exact fracOk_mk h1 h2 (by omega) hg (fun k => h4 ⟨k.1, by omega⟩)
    · rw [decide_eq_false hg]; exact fracOk_no (fun h => hg h.2.2.2.1)
  rw [hv]
  generalize decide (Nat.gcd (val xs) (val ys) = 1) = dd at *
  generalize Nat.gcd (val xs) (val ys) = gg at *
  have h4' : (((la : Int) == 0) = true ∧ bl = false) ∨ ((la : Int) == 0) = false := by
    by_cases hz : la = 0
    · refine .inl ⟨by simp; omega, ?_⟩
      cases bl
      · rfl
      · exact absurd ⟨rfl, hz⟩ h4
    · exact .inr (beqF (Nat.pos_of_ne_zero hz))
  clear h1 h2 q1 q2 pA pB hv h4 h3
  rcases h4' with ⟨h4, rfl⟩ | h4
  all_goals
    go_enter Tryz.func10, Tryz.ntmps10
    go_wp2_with fail
    refine K1.out.mono ?_
    rintro e w1 ⟨rfl, hw⟩
    obtain rfl := hw
    go_wp2_with fail
    refine K2.out.mono ?_
    rintro e w1 ⟨rfl, hw⟩
    obtain rfl := hw
    go_wp2_with fail
    refine G.out.mono ?_
    rintro e w2 ⟨⟨av, cv, rfl, hO⟩, hb2⟩
    go_wp2_with fail
    refine (O.out _ _ _ _ hO).mono ?_
    rintro e w3 ⟨rfl, hw⟩
    obtain rfl := hw
    go_wp2
    go_ret
    exact ⟨rfl, old_trans e0 hb2⟩
def signI (ok bl : Bool) (len : Nat) : Int := if ok = true ∧ len ≠ 0 then (if bl = true then -1 else 1) else 0
set_option maxHeartbeats 2000000 in
theorem lEqF (bl : Bool) (a b a' b' : Option Addr) (ca cb ca' cb' : Nat) (n n' m m' : Nat) (xs ys : List Int) (w : World) (hA : OI w n a ca xs) (hB : OI w n' b cb ys) (hA' : OI w m a' ca' xs) (hB' : OI w m' b' cb' ys) :
    Calls Tryz.prog 8 #[.agg #[.bool bl, .slice a xs.length ca, .slice b ys.length cb], .agg #[.bool bl, .slice a' xs.length ca', .slice b' ys.length cb']] w fun e w' => e = .returned (.bool true) ∧ Below w.heap.size w w' := by
  have e0 : Below w.heap.size w ((w.alloc (.cells #[.bool bl, .slice a xs.length ca, .slice b ys.length cb] 28)).alloc (.cells #[.bool bl, .slice a' xs.length ca', .slice b' ys.length cb'] 28)) := (by repeat (first | exact Below.refl _ _ | refine Below.drew ?_ | refine old_alloc ?_ _ | refine old_trans ?_ (by assumption)))
  have E1 := hd (lEqO a a' ca ca' n m xs _ (hA.later e0) (hA'.later e0))
  have E2 := hd (fun w' (h : Below w.heap.size w w') => lEqO b b' cb cb' n' m' ys w' (hB.later h) (hB'.later h))
  have K1 := (Cel3.new w (.bool bl) (.slice a xs.length ca) (.slice b ys.length cb) 28).old (old_alloc (Below.refl _ _) (.cells #[.bool bl, .slice a' xs.length ca', .slice b' ys.length cb'] 28))
  have K2 := Cel3.new (w.alloc (.cells #[.bool bl, .slice a xs.length ca, .slice b ys.length cb] 28)) (.bool bl) (.slice a' xs.length ca') (.slice b' ys.length cb') 28
  simp only [World.size_alloc] at K2
  clear hA hB hA' hB'
  go_enter Tryz.func8, Tryz.ntmps8
  go_wp2_with fail
  refine E1.out.mono ?_
  rintro e w1 ⟨rfl, hb1⟩
  obtain ⟨k1, ⟨k2, k3, k4⟩, -⟩ := K1.old hb1
  obtain ⟨m1, ⟨m2, m3, m4⟩, -⟩ := K2.old hb1
  go_wp2_with fail
  refine (E2.out _ (old_trans e0 hb1)).mono ?_
  rintro e w2 ⟨rfl, hb2⟩
  go_wp2
  go_ret
  exact ⟨rfl, old_trans (old_trans e0 hb1) hb2⟩
end Go.Proofs.YtmcfdkhkagkhbaaGreatDoor
