/- Order of fractions, as whole numbers: what comparison, difference and sign tell. -/
import Derived.Test.YtbcdeddbkckaeaaGreatDoorF3
import Derived.Test.YtbcdeddbkckaeaaGreatDoorUX
import Derived.Test.YtbcdeddbkckaeaaGreatDoorFE
namespace Go.Proofs.YtbcdeddbkckaeaaGreatDoor
open Go.RowKit
set_option linter.unusedVariables false
set_option maxRecDepth 100000

/-- a number with a sign -/
def fv (b : Bool) (A : Nat) : Int := if b then -(A : Int) else A
def c3 (P : Int) : Int := if P < 0 then -1 else if 0 < P then 1 else 0
theorem c3_neg (P : Int) : c3 (-P) = -c3 P := by unfold c3; split <;> split <;> (try split) <;> omega
theorem c3_rng (P : Int) : c3 P = -1 ∨ c3 P = 0 ∨ c3 P = 1 := by unfold c3; split <;> (try split) <;> omega
theorem c3_zero {P : Int} (h : c3 P = 0) : P = 0 := by unfold c3 at h; split at h <;> (try split at h) <;> omega
theorem c3_mul {P : Int} {v : Nat} (h : v ≠ 0) : c3 (P * v) = c3 P := by
  have hv : (0 : Int) < (v : Int) := by omega
  unfold c3
  rcases Int.lt_trichotomy P 0 with g | g | g
  · rw [if_pos g, if_pos (Int.mul_neg_of_neg_of_pos g hv)]
  · subst g; simp
  · have g2 := Int.mul_pos g hv
    rw [if_neg (show ¬ P * v < 0 by omega), if_pos g2, if_neg (show ¬ P < 0 by omega), if_pos g]
theorem c3_add {P Q : Int} (h : c3 P = c3 Q) : c3 (P + Q) = c3 P := by unfold c3 at *; split at h <;> split at h <;> (try split at h) <;> (try split at h) <;> (repeat split) <;> omega
theorem fv_mul (b : Bool) (x v : Nat) : fv b (x * v) = fv b x * v := by unfold fv; split <;> simp [Int.neg_mul]
theorem sum_c3 (bl bm : Bool) (X Y : Nat) : signI true (sumS bl (!bm) X Y) (natL (sumN bl (!bm) X Y)).length = c3 (fv bl X - fv bm Y) := by
  have hN : ∀ v : Nat, ((natL v).length ≠ 0) ↔ v ≠ 0 := fun v => by
    constructor
    · intro h e; subst e; rw [natL_zero] at h; exact h rfl
    · intro h; have := natL_length_pos (Nat.pos_of_ne_zero h); omega
  unfold signI
  simp only [hN, true_and]
  unfold sumS sumN c3 fv
  cases bl <;> cases bm <;> simp <;> (repeat' split) <;> omega
/-- how two fractions stand -/
def pab (bl : Bool) (xs ys : List Int) (bm : Bool) (us vs : List Int) : Int := fv bl (val xs) * val vs - fv bm (val us) * val ys
theorem pab_neg (bl : Bool) (xs ys : List Int) (bm : Bool) (us vs : List Int) : pab bm us vs bl xs ys = -pab bl xs ys bm us vs := by unfold pab; omega
theorem pab_c3 (bl : Bool) (xs ys : List Int) (bm : Bool) (us vs : List Int) : signI true (sumS bl (!bm) (val xs * val vs) (val us * val ys)) (natL (sumN bl (!bm) (val xs * val vs) (val us * val ys))).length = c3 (pab bl xs ys bm us vs) := by
  rw [sum_c3, fv_mul, fv_mul]
  rfl
theorem frac_pos {b : Bool} {xs ys : List Int} (h : fracOk b xs ys = true) : val ys ≠ 0 := (lowB_in (fracOk_low h).1).1
theorem pab_trans {bl bm bn : Bool} {xs ys us vs ps qs : List Int} (h1 : fracOk bl xs ys = true) (h2 : fracOk bm us vs = true) (h3 : fracOk bn ps qs = true) (h : c3 (pab bl xs ys bm us vs) = c3 (pab bm us vs bn ps qs)) : c3 (pab bl xs ys bn ps qs) = c3 (pab bl xs ys bm us vs) := by
  have y0 := frac_pos h1
  have v0 := frac_pos h2
  have t0 := frac_pos h3
  rw [← c3_mul (P := pab bl xs ys bn ps qs) v0]
  have e : pab bl xs ys bn ps qs * val vs = pab bl xs ys bm us vs * val qs + pab bm us vs bn ps qs * val ys := by
    unfold pab
    grind
  rw [e, c3_add, c3_mul t0]
  rw [c3_mul t0, c3_mul y0]
  exact h
theorem pab_eq {bl bm : Bool} {xs ys us vs : List Int} (h1 : fracOk bl xs ys = true) (h2 : fracOk bm us vs = true) (h : pab bl xs ys bm us vs = 0) : bl = bm ∧ xs = us ∧ ys = vs := by
  have q := fracOk_in h1
  have r := fracOk_in h2
  have y0 := frac_pos h1
  have v0 := frac_pos h2
  have cx := natOk_canon q.1
  have cy := natOk_canon q.2.1
  have cu := natOk_canon r.1
  have cv := natOk_canon r.2.1
  have hbx : bl = true → val xs ≠ 0 := fun hb e => q.2.2.2.2 ⟨hb, by rw [e, natL_zero] at cx; rw [← cx]; rfl⟩
  have hbu : bm = true → val us ≠ 0 := fun hb e => r.2.2.2.2 ⟨hb, by rw [e, natL_zero] at cu; rw [← cu]; rfl⟩
  have hm : val xs * val vs = val us * val ys ∧ bl = bm := by
    unfold pab at h
    rw [← fv_mul, ← fv_mul] at h
    have p1 : val xs ≠ 0 → 0 < val xs * val vs := fun g => Nat.mul_pos (Nat.pos_of_ne_zero g) (Nat.pos_of_ne_zero v0)
    have p2 : val us ≠ 0 → 0 < val us * val ys := fun g => Nat.mul_pos (Nat.pos_of_ne_zero g) (Nat.pos_of_ne_zero y0)
    generalize val xs * val vs = M at *
    generalize val us * val ys = N at *
    unfold fv at h
    cases bl <;> cases bm
    · exact ⟨by simp at h; omega, rfl⟩
    · have := p2 (hbu rfl); simp at h; omega
    · have := p1 (hbx rfl); simp at h; omega
    · exact ⟨by simp at h; omega, rfl⟩
  have g1 : Nat.Coprime (val xs) (val ys) := q.2.2.2.1
  have g2 : Nat.Coprime (val us) (val vs) := r.2.2.2.1
  have d1 : val ys ∣ val vs := g1.symm.dvd_of_dvd_mul_left (by rw [hm.1]; exact Nat.dvd_mul_left _ _)
  have d2 : val vs ∣ val ys := g2.symm.dvd_of_dvd_mul_left (by rw [← hm.1]; exact Nat.dvd_mul_left _ _)
  have e1 : val ys = val vs := Nat.dvd_antisymm d1 d2
  have e2 : val xs = val us := by
    have := hm.1
    rw [e1] at this
    exact Nat.eq_of_mul_eq_mul_right (Nat.pos_of_ne_zero v0) this
  exact ⟨hm.2, by rw [← cx, ← cu, e2], by rw [← cy, ← cv, e1]⟩
theorem sign_low {s : Bool} {A B : Nat} (h : lowB A B = true) : signI (fracOk (fS true s A) (fT true A B) (fU true A B)) (fS true s A) (fT true A B).length = signI true s (natL A).length := by
  have hf : fracOk (fS true s A) (fT true A B) (fU true A B) = true := low_frac h
  rw [hf]
  have ht : fT true A B = lowT A B := rfl
  rw [ht]
  by_cases h0 : A = 0
  · subst h0
    rw [natL_zero, lowT_zero]
    unfold signI
    simp
  · have h1 := lowT_pos (B := B) h0
    have h2 := natL_length_pos (Nat.pos_of_ne_zero h0)
    have hs : fS true s A = s := by unfold fS; rw [decide_eq_true h0]; cases s <;> rfl
    unfold signI
    rw [hs, if_pos (show true = true ∧ (lowT A B).length ≠ 0 from ⟨rfl, by omega⟩), if_pos (show true = true ∧ (natL A).length ≠ 0 from ⟨rfl, by omega⟩)]
end Go.Proofs.YtbcdeddbkckaeaaGreatDoor
