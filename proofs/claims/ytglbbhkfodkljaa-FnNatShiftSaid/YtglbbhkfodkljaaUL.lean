/- What the program and the specification do with numbers, said of the naturals that they stand for. Conditions: as each says. -/
import Derived.Test.YtglbbhkfodkljaaUK
import Derived.Test.YtglbbhkfodkljaaBC
import Derived.Test.YtglbbhkfodkljaaNJ
import Derived.Test.YtglbbhkfodkljaaBG
import Derived.Test.YtglbbhkfodkljaaBB
import Derived.Test.YtglbbhkfodkljaaV6
import Derived.ShutString
import Derived.ChangeOld
namespace Go.Proofs.Ytglbbhkfodkljaa
open Go.RowKit
set_option linter.unusedVariables false

theorem okL {X : Nat} (h : (natL X).length ≤ 256) : natOk (natL X) = true := natOk_natL (natL_len.1 h)
theorem okX {xs : List Int} (h : natOk xs = true) : ∃ X, xs = natL X ∧ (natL X).length ≤ 256 := ⟨val xs, (natOk_canon h).symm, by rw [natOk_canon h]; exact (natOk_in h).1⟩
theorem natL_ne {Y : Nat} (h : Y ≠ 0) : (natL Y).length ≠ 0 := by have := natL_length_pos (Nat.pos_of_ne_zero h); omega
theorem imAdd {X Y Z : Nat}  (hz : X + Y = Z) (lx : (natL X).length ≤ 256) (ly : (natL Y).length ≤ 256) (lz : (natL Z).length ≤ 256) (a b : Option Addr) (ca cb : Nat) (w : World) (hA : InI w a (natL X).length ca (natL X)) (hB : InI w b (natL Y).length cb (natL Y)) :
    Calls Try.prog 10 #[.slice a (natL X).length ca, .slice b (natL Y).length cb] w fun e w' => (∃ av cv, e = .returned (.tuple #[.slice av (natL Z).length cv, .bool true]) ∧ OI w' w.heap.size av cv (natL Z)) ∧ Below w.heap.size w w' := by
  have e1 : addB (natL X) (natL Y) = true := by
    unfold addB
    rw [okL lx, okL ly]
    simp only [val_natL, Bool.true_and]
    exact decide_eq_true (by rw [hz]; exact lz)
  have h := iNatAdd a b _ _ ca cb _ _ w hA hB
  rw [e1, val_natL, val_natL, hz] at h
  exact h
theorem imAddN {xs ys : List Int} (hf : addB xs ys = false) (a b : Option Addr) (la lb ca cb : Nat) (w : World) (hA : InI w a la ca xs) (hB : InI w b lb cb ys) :
    Calls Try.prog 10 #[.slice a la ca, .slice b lb cb] w fun e w' => (∃ av cv, e = .returned (.tuple #[.slice av 0 cv, .bool false]) ∧ OI w' w.heap.size av cv []) ∧ Below w.heap.size w w' := by
  have h := iNatAdd a b _ _ ca cb _ _ w hA hB
  rw [hf] at h
  exact h
theorem imMul {X Y Z : Nat}  (hz : X * Y = Z) (lx : (natL X).length ≤ 256) (ly : (natL Y).length ≤ 256) (lz : (natL Z).length ≤ 256) (a b : Option Addr) (ca cb : Nat) (w : World) (hA : InI w a (natL X).length ca (natL X)) (hB : InI w b (natL Y).length cb (natL Y)) :
    Calls Try.prog 9 #[.slice a (natL X).length ca, .slice b (natL Y).length cb] w fun e w' => (∃ av cv, e = .returned (.tuple #[.slice av (natL Z).length cv, .bool true]) ∧ OI w' w.heap.size av cv (natL Z)) ∧ Below w.heap.size w w' := by
  have e1 : mulB (natL X) (natL Y) = true := by
    unfold mulB
    rw [okL lx, okL ly]
    simp only [val_natL, Bool.true_and]
    exact decide_eq_true (by rw [hz]; exact lz)
  have h := iNatMul a b _ _ ca cb _ _ w hA hB
  rw [e1, val_natL, val_natL, hz] at h
  exact h
theorem imMulN {xs ys : List Int} (hf : mulB xs ys = false) (a b : Option Addr) (la lb ca cb : Nat) (w : World) (hA : InI w a la ca xs) (hB : InI w b lb cb ys) :
    Calls Try.prog 9 #[.slice a la ca, .slice b lb cb] w fun e w' => (∃ av cv, e = .returned (.tuple #[.slice av 0 cv, .bool false]) ∧ OI w' w.heap.size av cv []) ∧ Below w.heap.size w w' := by
  have h := iNatMul a b _ _ ca cb _ _ w hA hB
  rw [hf] at h
  exact h
theorem imSub {X Y Z : Nat} (hyx : Y ≤ X) (hz : X - Y = Z) (lx : (natL X).length ≤ 256) (ly : (natL Y).length ≤ 256) (a b : Option Addr) (ca cb : Nat) (w : World) (hA : InI w a (natL X).length ca (natL X)) (hB : InI w b (natL Y).length cb (natL Y)) :
    Calls Try.prog 14 #[.slice a (natL X).length ca, .slice b (natL Y).length cb] w fun e w' => (∃ av cv, e = .returned (.tuple #[.slice av (natL Z).length cv, .bool true]) ∧ OI w' w.heap.size av cv (natL Z)) ∧ Below w.heap.size w w' := by
  have e1 : subB (natL X) (natL Y) = true := by
    unfold subB
    rw [okL lx, okL ly]
    simp only [val_natL, Bool.true_and]
    exact decide_eq_true hyx
  have h := iNatSub a b _ _ ca cb _ _ w hA hB
  rw [e1, val_natL, val_natL, hz] at h
  exact h
theorem imSubN {xs ys : List Int} (hf : subB xs ys = false) (a b : Option Addr) (la lb ca cb : Nat) (w : World) (hA : InI w a la ca xs) (hB : InI w b lb cb ys) :
    Calls Try.prog 14 #[.slice a la ca, .slice b lb cb] w fun e w' => (∃ av cv, e = .returned (.tuple #[.slice av 0 cv, .bool false]) ∧ OI w' w.heap.size av cv []) ∧ Below w.heap.size w w' := by
  have h := iNatSub a b _ _ ca cb _ _ w hA hB
  rw [hf] at h
  exact h
theorem imDiv {X Y Q R : Nat} (hq : X / Y = Q) (hr : X % Y = R) (h0 : Y ≠ 0) (lx : (natL X).length ≤ 256) (ly : (natL Y).length ≤ 256) (a b : Option Addr) (ca cb : Nat) (w : World) (hA : InI w a (natL X).length ca (natL X)) (hB : InI w b (natL Y).length cb (natL Y)) :
    Calls Try.prog 7 #[.slice a (natL X).length ca, .slice b (natL Y).length cb] w fun e w' => (∃ av cv av2 cv2, e = .returned (.tuple #[.slice av (natL Q).length cv, .slice av2 (natL R).length cv2, .bool true]) ∧ OI w' w.heap.size av cv (natL Q) ∧ OI w' w.heap.size av2 cv2 (natL R)) ∧ Below w.heap.size w w' := by
  have e1 : divB (natL X) (natL Y) = true := by
    unfold divB
    rw [okL lx, okL ly, decide_eq_true (natL_ne h0)]
    rfl
  have h := iNatDiv a b _ _ ca cb _ _ w hA hB
  rw [show divQ (natL X) (natL Y) = natL Q by unfold divQ; rw [e1, val_natL, val_natL, hq]; rfl, show divR (natL X) (natL Y) = natL R by unfold divR; rw [e1, val_natL, val_natL, hr]; rfl, e1] at h
  refine h.mono ?_
  rintro e w' ⟨⟨av, cv, av2, cv2, h1, h2, h3, -⟩, h4⟩
  exact ⟨⟨av, cv, av2, cv2, h1, h2, h3⟩, h4⟩
theorem imDivN {xs ys : List Int} (hf : divB xs ys = false) (a b : Option Addr) (la lb ca cb : Nat) (w : World) (hA : InI w a la ca xs) (hB : InI w b lb cb ys) :
    Calls Try.prog 7 #[.slice a la ca, .slice b lb cb] w fun e w' => (∃ av cv av2 cv2, e = .returned (.tuple #[.slice av 0 cv, .slice av2 0 cv2, .bool false])) ∧ Below w.heap.size w w' := by
  have h := iNatDiv a b _ _ ca cb _ _ w hA hB
  rw [show divQ xs ys = [] by unfold divQ; rw [hf]; rfl, show divR xs ys = [] by unfold divR; rw [hf]; rfl, hf] at h
  refine h.mono ?_
  rintro e w' ⟨⟨av, cv, av2, cv2, h1, -⟩, h4⟩
  exact ⟨⟨av, cv, av2, cv2, h1⟩, h4⟩
theorem smAdd {X Y Z : Nat}  (hz : X + Y = Z) (lx : (natL X).length ≤ 256) (ly : (natL Y).length ≤ 256) (lz : (natL Z).length ≤ 256) (a b : Option Addr) (ca cb : Nat) (w : World) (hA : InI w a (natL X).length ca (natL X)) (hB : InI w b (natL Y).length cb (natL Y)) :
    Calls Try.prog 13 #[.slice a (natL X).length ca, .slice b (natL Y).length cb] w fun e w' => (∃ av cv, e = .returned (.tuple #[.slice av (natL Z).length cv, .bool true]) ∧ OI w' w.heap.size av cv (natL Z)) ∧ Below w.heap.size w w' := by
  have e1 : addB (natL X) (natL Y) = true := by
    unfold addB
    rw [okL lx, okL ly]
    simp only [val_natL, Bool.true_and]
    exact decide_eq_true (by rw [hz]; exact lz)
  have h := sNatAdd a b _ _ ca cb _ _ w hA hB
  rw [e1, val_natL, val_natL, hz] at h
  exact h
theorem smAddN {xs ys : List Int} (hf : addB xs ys = false) (a b : Option Addr) (la lb ca cb : Nat) (w : World) (hA : InI w a la ca xs) (hB : InI w b lb cb ys) :
    Calls Try.prog 13 #[.slice a la ca, .slice b lb cb] w fun e w' => (∃ av cv, e = .returned (.tuple #[.slice av 0 cv, .bool false]) ∧ OI w' w.heap.size av cv []) ∧ Below w.heap.size w w' := by
  have h := sNatAdd a b _ _ ca cb _ _ w hA hB
  rw [hf] at h
  exact h
theorem smDiv {X Y Q R : Nat} (hq : X / Y = Q) (hr : X % Y = R) (h0 : Y ≠ 0) (lx : (natL X).length ≤ 256) (ly : (natL Y).length ≤ 256) (a b : Option Addr) (ca cb : Nat) (w : World) (hA : InI w a (natL X).length ca (natL X)) (hB : InI w b (natL Y).length cb (natL Y)) :
    Calls Try.prog 8 #[.slice a (natL X).length ca, .slice b (natL Y).length cb] w fun e w' => (∃ av cv av2 cv2, e = .returned (.tuple #[.slice av (natL Q).length cv, .slice av2 (natL R).length cv2, .bool true]) ∧ OI w' w.heap.size av cv (natL Q) ∧ OI w' w.heap.size av2 cv2 (natL R)) ∧ Below w.heap.size w w' := by
  have e1 : divB (natL X) (natL Y) = true := by
    unfold divB
    rw [okL lx, okL ly, decide_eq_true (natL_ne h0)]
    rfl
  have h := sNatDiv a b _ _ ca cb _ _ w hA hB
  rw [show divQ (natL X) (natL Y) = natL Q by unfold divQ; rw [e1, val_natL, val_natL, hq]; rfl, show divR (natL X) (natL Y) = natL R by unfold divR; rw [e1, val_natL, val_natL, hr]; rfl, e1] at h
  refine h.mono ?_
  rintro e w' ⟨⟨av, cv, av2, cv2, h1, h2, h3, -⟩, h4⟩
  exact ⟨⟨av, cv, av2, cv2, h1, h2, h3⟩, h4⟩
theorem smDivN {xs ys : List Int} (hf : divB xs ys = false) (a b : Option Addr) (la lb ca cb : Nat) (w : World) (hA : InI w a la ca xs) (hB : InI w b lb cb ys) :
    Calls Try.prog 8 #[.slice a la ca, .slice b lb cb] w fun e w' => (∃ av cv av2 cv2, e = .returned (.tuple #[.slice av 0 cv, .slice av2 0 cv2, .bool false])) ∧ Below w.heap.size w w' := by
  have h := sNatDiv a b _ _ ca cb _ _ w hA hB
  rw [show divQ xs ys = [] by unfold divQ; rw [hf]; rfl, show divR xs ys = [] by unfold divR; rw [hf]; rfl, hf] at h
  refine h.mono ?_
  rintro e w' ⟨⟨av, cv, av2, cv2, h1, -⟩, h4⟩
  exact ⟨⟨av, cv, av2, cv2, h1⟩, h4⟩
theorem imCmp {X Y : Nat} {c : Int} (hc : cmpI X Y = c) (lx : (natL X).length ≤ 256) (ly : (natL Y).length ≤ 256) (a b : Option Addr) (ca cb : Nat) (w : World) (hA : InI w a (natL X).length ca (natL X)) (hB : InI w b (natL Y).length cb (natL Y)) :
    Calls Try.prog 12 #[.slice a (natL X).length ca, .slice b (natL Y).length cb] w fun e w' => e = .returned (.int .i64 c) ∧ Below w.heap.size w w' := by
  have h := iNatCmp a b _ _ ca cb _ _ w hA hB
  rw [show ncmp (natL X) (natL Y) = c by unfold ncmp; rw [okL lx, okL ly, val_natL, val_natL, hc]; rfl] at h
  exact h
theorem cmp_ge {X Y : Nat} (h : Y ≤ X) : ∃ c : Int, cmpI X Y = c ∧ 0 ≤ c := by
  rcases Nat.lt_or_ge Y X with g | g
  · exact ⟨1, cmpI_gt g, by omega⟩
  · obtain rfl : X = Y := by omega
    exact ⟨0, cmpI_eq _, by omega⟩
set_option maxHeartbeats 2000000 in
theorem lPwSame (a a' : Option Addr) (len cap cap' : Nat) (xs : List Int) (w : World) (hR : InI w a len cap xs) (hR' : InI w a' len cap' xs) :
    Calls Try.prog 11 #[.slice a len cap, .slice a' len cap'] w fun e w' => e = .returned (.bool true) ∧ Below w.heap.size w w' := by
  have hlen := hR.len
  go_enter Try.func11, Try.ntmps11
  go_wp2
  go_loopw [5] (fun a wr => ∃ k : Nat, k ≤ len ∧ a = .int .i64 k ∧ Below w.heap.size w wr) (fun b _ => len - (intOf b).toNat)
  case atStart => exact ⟨0, by omega, rfl, (by repeat (first | exact Below.refl _ _ | refine Below.drew ?_ | refine old_alloc ?_ _ | refine old_trans ?_ (by assumption)))⟩
  case round =>
    obtain ⟨k, hk, rfl, hb⟩ := hrel
    by_cases hlt : k < len
    · obtain ⟨b, off, x, rfl, hbl, hx, -, c0⟩ := (hR.old hb).at hlt
      obtain ⟨b', off', x', rfl, hbl', hx', -, c0'⟩ := (hR'.old hb).at hlt
      obtain rfl := hx.symm.trans hx'
      go_wp2_with fail
      go_region
      all_goals
        go_wp2
        go_roundw
        case rel => exact ⟨k + 1, by omega, by go_num, hb.drew⟩
        case measure => simp [intOf]; omega
    · obtain rfl : k = len := by omega
      go_wp2
      go_ret
      exact ⟨rfl, hb⟩
theorem powB_rng' {xs : List Int} {n : Int} (h : powB xs n = true) : 0 ≤ n ∧ n ≤ 64 := by
  unfold powB at h
  simp only [Bool.and_eq_true, decide_eq_true_eq] at h
  exact h.2.1
theorem powB_ok {xs : List Int} {n : Int} (h : powB xs n = true) : natOk xs = true := by
  unfold powB at h
  simp only [Bool.and_eq_true] at h
  exact h.1
theorem imPow {X Z m : Nat} (hz : X ^ m = Z) (hm : m ≤ 64) (lx : (natL X).length ≤ 256) (lz : (natL Z).length ≤ 256) (a : Option Addr) (ca : Nat) (w : World) (hA : InI w a (natL X).length ca (natL X)) :
    Calls Try.prog 19 #[.slice a (natL X).length ca, .int .i64 (m : Int)] w fun e w' => (∃ av cv, e = .returned (.tuple #[.slice av (natL Z).length cv, .bool true]) ∧ OI w' w.heap.size av cv (natL Z)) ∧ Below w.heap.size w w' := by
  have e1 : powB (natL X) (m : Int) = true := by
    unfold powB
    rw [okL lx, decide_eq_true (show 0 ≤ (m : Int) ∧ (m : Int) ≤ 64 by omega), val_natL, Int.toNat_natCast, hz]
    exact decide_eq_true lz
  have h := iNatPow a _ ca _ (m : Int) w hA
  rw [e1, val_natL, Int.toNat_natCast, hz] at h
  exact h
theorem imPowN {xs : List Int} {n : Int} (hf : powB xs n = false) (a : Option Addr) (la ca : Nat) (w : World) (hA : InI w a la ca xs) :
    Calls Try.prog 19 #[.slice a la ca, .int .i64 n] w fun e w' => (∃ av cv, e = .returned (.tuple #[.slice av 0 cv, .bool false]) ∧ OI w' w.heap.size av cv []) ∧ Below w.heap.size w w' := by
  have h := iNatPow a _ ca _ n w hA
  rw [hf] at h
  exact h
theorem smPow {X Z m : Nat} (hz : X ^ m = Z) (hm : m ≤ 64) (lx : (natL X).length ≤ 256) (lz : (natL Z).length ≤ 256) (a : Option Addr) (ca : Nat) (w : World) (hA : InI w a (natL X).length ca (natL X)) :
    Calls Try.prog 21 #[.slice a (natL X).length ca, .int .i64 (m : Int)] w fun e w' => (∃ av cv, e = .returned (.tuple #[.slice av (natL Z).length cv, .bool true]) ∧ OI w' w.heap.size av cv (natL Z)) ∧ Below w.heap.size w w' := by
  have e1 : powB (natL X) (m : Int) = true := by
    unfold powB
    rw [okL lx, decide_eq_true (show 0 ≤ (m : Int) ∧ (m : Int) ≤ 64 by omega), val_natL, Int.toNat_natCast, hz]
    exact decide_eq_true lz
  have h := sNatPow a _ ca _ (m : Int) w hA
  rw [e1, val_natL, Int.toNat_natCast, hz] at h
  exact h
theorem smPowN {xs : List Int} {n : Int} (hf : powB xs n = false) (a : Option Addr) (la ca : Nat) (w : World) (hA : InI w a la ca xs) :
    Calls Try.prog 21 #[.slice a la ca, .int .i64 n] w fun e w' => (∃ av cv, e = .returned (.tuple #[.slice av 0 cv, .bool false]) ∧ OI w' w.heap.size av cv []) ∧ Below w.heap.size w w' := by
  have h := sNatPow a _ ca _ n w hA
  rw [hf] at h
  exact h
end Go.Proofs.Ytglbbhkfodkljaa
