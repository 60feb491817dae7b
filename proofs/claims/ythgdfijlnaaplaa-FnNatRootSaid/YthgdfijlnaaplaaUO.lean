/- Draws of a number's digits, squares and next to squares now and then: some list, in new memory. -/
import Derived.Test.YthgdfijlnaaplaaUK
import Derived.Test.YthgdfijlnaaplaaBB
import Derived.Test.YthgdfijlnaaplaaBC
namespace Go.Proofs.Ythgdfijlnaaplaa
open Go.RowKit
set_option linter.unusedVariables false

theorem len_mul {A B n m : Nat} (hA : A < 65536 ^ n) (hB : B < 65536 ^ m) : (natL (A * B)).length ≤ n + m := by
  refine natL_len.2 ?_
  rw [Nat.pow_add]
  have hp : 0 < 65536 ^ m := Nat.pow_pos (by omega)
  exact Nat.lt_of_le_of_lt (Nat.mul_le_mul_left A (Nat.le_of_lt hB)) (Nat.mul_lt_mul_of_pos_right hA hp)
theorem len_add1 {A n : Nat} (h : (natL A).length ≤ n) : (natL (A + 1)).length ≤ n + 1 := by
  have h1 := natL_len.1 h
  refine natL_len.2 ?_
  rw [Nat.pow_succ]
  have hp : 0 < 65536 ^ n := Nat.pow_pos (by omega)
  omega
/-- a list in new memory -/
def Li (w : World) (base : Nat) (e : Ending) : Prop := ∃ av cv xs, e = .returned (.slice av (List.length xs) cv) ∧ OI w base av cv xs ∧ List.length xs ≤ 257
set_option maxHeartbeats 4000000 in
theorem drawNatRoot (w : World) (a : Option Addr) (len cap : Nat) (h : IsCode w a len cap) :
    Calls Try.prog 5 #[.slice a len cap] w fun e w' => Li w' w.heap.size e ∧ Below w.heap.size w w' := by
  have hop := hd (open_kB w a len cap h)
  go_enter Try.func5, Try.ntmps5
  go_wp2_with fail
  refine hop.out.mono ?_
  rintro e w1 ⟨rfl, o, rfl, hR⟩
  have hsz0 : (w.alloc o).heap.size = w.heap.size + 1 := by simp
  generalize hrb : w.heap.size = rb at *
  clear hop h
  go_wp2_with fail
  refine (raw_k rb 90000 _ (hR.mono (by omega))).mono ?_
  rintro e w2 ⟨⟨v, xs, rfl, G, F_, hl_⟩, R2, B2⟩
  have hl := hd hl_
  have hs2 := B2.size
  obtain ⟨av, cv, rfl, O⟩ := G.oi F_
  clear hR F_ hl_ G
  have K := hd (sNatOk av _ cv xs w2 O.inI)
  have hO : ∀ q, av = some q → some q.block ≠ some rb := fun q e1 e2 => by injection e2 with e2; have := O.ge q e1; omega
  have hE : ∀ W, OI W ((w.alloc o).heap.size) av cv xs → But rb (w.alloc o) W → Li W w.heap.size (.returned (.slice av xs.length cv)) ∧ Below w.heap.size w W := fun W h1 h2 => by
    subst hrb
    exact ⟨⟨av, cv, xs, rfl, h1.mono (by omega), hl.out⟩, h2.below⟩
  have hE := hd hE
  cases hok : natOk xs
  · rw [hok] at K
    go_wp2_with fail
    refine K.out.mono ?_
    rintro e w3 ⟨rfl, rfl⟩
    have hz := hE.out _ O B2
    clear hok K O R2 B2 hE
    go_wp2
    go_ret
    first | exact hz | (rw [hrb] at hz; exact hz)
  rw [hok] at K
  by_cases h100 : xs.length < 100
  case neg =>
    have h100' : ¬ ((xs.length : Int) < 100) := by omega
    go_wp2_with fail
    refine K.out.mono ?_
    rintro e w3 ⟨rfl, rfl⟩
    have hz := hE.out _ O B2
    clear hok K O R2 B2 hE
    go_wp2
    go_ret
    first | exact hz | (rw [hrb] at hz; exact hz)
  have h100' : (xs.length : Int) < 100 := by omega
  have q := natOk_in hok
  have hdg := hd q.2.1
  have hv : Hid (val xs < 65536 ^ 99) := Nat.lt_of_lt_of_le (val_lt q.2.1) (Nat.pow_le_pow_right (by omega) (by omega))
  clear q hok
  go_wp2_with fail
  refine K.out.mono ?_
  rintro e w3 ⟨rfl, rfl⟩
  clear K
  go_wp2_with fail
  refine (pick_k rb 89999 _ _ R2 (by decide)).mono ?_
  rintro e w4 ⟨⟨t, ⟨ta, tb⟩, rfl⟩, R4, B4⟩
  replace O := O.kept B4.grown hO
  have hs4 := B4.size
  replace B4 := B2.trans B4
  clear R2 B2
  by_cases ht : 0 < t
  case neg =>
    have hz := hE.out _ O B4
    clear O R4 B4 hE
    go_wp2
    go_ret
    first | exact hz | (rw [hrb] at hz; exact hz)
  clear hE
  go_wp2_with fail
  refine (sMul av av _ _ cv cv xs xs _ O.inI O.inI hdg.out hdg.out (by omega) (by omega)).mono ?_
  rintro e w5 ⟨⟨av5, cv5, rfl, O5⟩, hb5⟩
  have hl5 := hd (len_mul hv.out hv.out)
  generalize val xs * val xs = Z at *
  replace R4 := R4.old hb5
  replace B4 := B4.trans (But.of hb5)
  have hs5 := hb5.size
  clear hb5 O
  go_wp2_with fail
  refine (pick_k rb 89998 _ _ R4 (by decide)).mono ?_
  rintro e w6 ⟨⟨s, ⟨sa, sb⟩, rfl⟩, R6, B6⟩
  replace O5 := O5.kept B6.grown (fun q e1 e2 => by injection e2 with e2; have := O5.ge q e1; omega)
  have hs6 := B6.size
  replace B6 := B4.trans B6
  clear R4 B4
  by_cases hs : s = 0
  case neg =>
    have hs' : (s == 0) = false := by simpa using hs
    have hz : Li w6 rb (.returned (.slice av5 (natL Z).length cv5)) := ⟨av5, cv5, _, rfl, O5.mono (by omega), by have := hl5.out; omega⟩
    subst hrb
    have hBB := B6.below
    clear O5 R6 B6 hl5
    go_wp2
    go_ret
    exact ⟨hz, hBB⟩
  subst hs
  have al : Below w6.heap.size w6 (w6.alloc (.cells #[.int .i64 1] 3)) := old_alloc (Below.refl _ _) _
  have hone := one_oi w6 3
  replace O5 := O5.later al
  replace B6 := B6.trans (But.of al)
  have AD := hd (sAdd av5 (some ⟨w6.heap.size, 0, none⟩) _ _ cv5 1 _ _ _ O5.inI hone.inI (digs_natL _) (digs_natL _) (topped_natL _) (topped_natL _) (by have := hl5.out; omega) (by rw [one_len]; omega))
  rw [one_len, val_natL, val_natL] at AD
  have hl6 := hd (len_add1 hl5.out)
  generalize natL Z = zl at *
  generalize natL (Z + 1) = zl1 at *
  clear O5 hone al R6
  go_wp2_with fail
  refine AD.out.mono ?_
  rintro e w7 ⟨⟨av7, cv7, rfl, O7⟩, hb7⟩
  have hz : Li w7 rb (.returned (.slice av7 zl1.length cv7)) := ⟨av7, cv7, _, rfl, O7.mono (by simp; omega), by have := hl6.out; omega⟩
  replace B6 := B6.trans (But.of hb7)
  subst hrb
  have hBB := B6.below
  clear O7 B6 AD hb7
  go_wp2
  go_ret
  exact ⟨hz, hBB⟩
end Go.Proofs.Ythgdfijlnaaplaa
