/- PairLess and PairMore of the program and of the specification; the laws' toPair and eqPair; nothing that was there is written. -/
import Derived.Test.YtpnfkigeagbhpaaPK13
import Derived.Test.YtpnfkigeagbhpaaPK08
namespace Go.Proofs.Ytpnfkigeagbhpaa
open Go.RowKit

/-- the greatest narrow float that is not above a wide one, as a function -/
def nrI (o : Int) : Int := if widI 2139095039 < o then 2139095040 else if o < widI (-2139095039) then -2139095040 else if o < 0 then -(nar (if o < 0 then -o else o).toNat : Int) else (nar (if o < 0 then -o else o).toNat : Int)
def belI (o : Int) : Int := if widI (nrI o) ≤ o then nrI o else nrI o - 1
theorem nrI_is (o : Int) (h1 : -9218868437227405312 ≤ o) (h2 : o ≤ 9218868437227405312) : IsNear o (nrI o) := by
  unfold nrI
  by_cases c1 : widI 2139095039 < o
  · rw [if_pos c1]; exact near_hi_is o c1 h2
  rw [if_neg c1]
  by_cases c2 : o < widI (-2139095039)
  · rw [if_pos c2]; exact near_lo_is o c2 h1
  rw [if_neg c2]
  have e1 : widI 2139095039 = (wid 2139095039 : Int) := widI_nat 2139095039
  have e2 : widI (-2139095039) = -(wid 2139095039 : Int) := widI_natneg 2139095039
  rw [e1] at c1
  rw [e2] at c2
  clear e1 e2
  refine near_is o (if o < 0 then -o else o).toNat ?_ ?_
  · generalize wid 2139095039 = A at *
    split <;> omega
  · generalize wid 2139095039 = A at *
    split <;> omega
theorem belI_is (o : Int) (h1 : -9218868437227405312 ≤ o) (h2 : o ≤ 9218868437227405312) : IsBelow o (belI o) := by
  unfold belI
  rcases nrI_is o h1 h2 with h | ⟨_, _, h, hlt⟩
  · rw [if_pos h.2.2.1]; exact h
  · rw [if_neg (by exact Int.not_le.2 hlt)]; exact h
theorem iBel (o : Int) (h1 : -9218868437227405312 ≤ o) (h2 : o ≤ 9218868437227405312) (w : World) :
    Calls Try.prog 62 #[.int .i64 o] w fun e w' => e = .returned (.tuple #[.int .i64 (belI o), .bool true]) ∧ Below w.heap.size w w' := by
  refine (iBitBelow o h1 h2 w).mono ?_
  rintro e w1 ⟨⟨n, hn, rfl⟩, hb⟩
  rw [hn.one (belI_is o h1 h2)]
  exact ⟨rfl, hb⟩
theorem iAbo (o : Int) (h1 : -9218868437227405312 ≤ o) (h2 : o ≤ 9218868437227405312) (w : World) :
    Calls Try.prog 63 #[.int .i64 o] w fun e w' => e = .returned (.tuple #[.int .i64 (-belI (-o)), .bool true]) ∧ Below w.heap.size w w' := by
  refine (iBitAbove o h1 h2 w).mono ?_
  rintro e w1 ⟨⟨n, hn, rfl⟩, hb⟩
  rw [hn.one (belI_is (-o) (by omega) (by omega))]
  exact ⟨rfl, hb⟩
set_option maxRecDepth 100000 in
set_option maxHeartbeats 1600000 in
theorem iPairLess (lo hi : Int) (w : World) :
    Calls Try.prog 30 #[.agg #[.int .i64 lo, .int .i64 hi]] w fun e w' => e = .returned (pairV (pokB 64 lo hi) (belI lo) (-belI (-hi))) ∧ Below w.heap.size w w' := by
  have H1 := hd (iPairOk 64 lo hi)
  have H2 := hd (iBel lo)
  have H3 := hd (iAbo hi)
  have hk : Hid (pokB 64 lo hi = true → -9218868437227405312 ≤ lo ∧ lo ≤ 9218868437227405312 ∧ -9218868437227405312 ≤ hi ∧ hi ≤ 9218868437227405312) := by
    intro h
    have := pokB_in h
    rw [okB_64, okB_64] at this
    have k1 := of_decide_eq_true this.1
    have k2 := of_decide_eq_true this.2.1
    exact ⟨k1.1, k1.2, k2.1, k2.2⟩
  have hr : Hid (pokB 64 lo hi = pokB 64 lo hi) := rfl
  generalize belI lo = x at *
  generalize -belI (-hi) = y at *
  generalize pokB 64 lo hi = r at *
  go_enter Try.func30, Try.ntmps30
  go_wp2_with fail
  refine (H1.out _).mono ?_
  rintro e w1 ⟨rfl, hb1⟩
  have K := ((Cel2.made w _ rfl (.int .i64 lo) (.int .i64 hi) 42).alloc _).later hb1
  have R := (Cel2.made _ (w.heap.size + 1) (by simp) (.int .i64 0) (.int .i64 0) 42).later hb1
  cases r
  · obtain ⟨d0, d1, d2, d3, d4⟩ := R
    go_wp2
    refine bodyPost_ret (v := .tuple #[.agg #[.int .i64 0, .int .i64 0], .bool false]) ?_ rfl ⟨pairV_no _ _ rfl, (by repeat (first | exact Below.refl _ _ | refine Below.drew ?_ | refine Below.setCell ?_ (by first | (simp; done) | omega | (simp; omega)) _ | refine old_alloc ?_ _ | refine old_trans ?_ (by assumption)))⟩
    simp [results, Try.results30, go_sem, d0, d1]
  have kk := hk.out (by simp)
  clear hk
  have a0 := K.1
  have a1 := K.2.1
  go_wp2_with fail
  refine (H2.out kk.1 kk.2.1 _).mono ?_
  rintro e w2 ⟨rfl, hb2⟩
  replace R := R.later hb2
  replace K := K.later hb2
  obtain ⟨a0, a1, -, -, -⟩ := K
  go_wp2_with fail
  refine (H3.out kk.2.2.1 kk.2.2.2 _).mono ?_
  rintro e w3 ⟨rfl, hb3⟩
  replace R := R.later hb3
  clear a0 a1
  obtain ⟨d0, d1, d2, d3, d4⟩ := R
  go_wp2
  refine bodyPost_ret (v := .tuple #[.agg #[.int .i64 x, .int .i64 y], .bool true]) ?_ rfl ⟨pairV_yes _ _ rfl, (by repeat (first | exact Below.refl _ _ | refine Below.drew ?_ | refine Below.setCell ?_ (by first | (simp; done) | omega | (simp; omega)) _ | refine old_alloc ?_ _ | refine old_trans ?_ (by assumption)))⟩
  simp [results, Try.results30, go_sem, d0, d1]

set_option maxRecDepth 100000 in
set_option maxHeartbeats 1600000 in
theorem iPairMore (lo hi : Int) (w : World) :
    Calls Try.prog 33 #[.agg #[.int .i64 lo, .int .i64 hi]] w fun e w' => e = .returned (pairV (pokB 32 lo hi) (widI lo) (widI hi)) ∧ Below w.heap.size w w' := by
  have H1 := hd (iPairOk 32 lo hi)
  have H2 := hd (iBitWiden lo)
  have H3 := hd (iBitWiden hi)
  have hk : Hid (pokB 32 lo hi = true → -2139095040 ≤ lo ∧ lo ≤ 2139095040 ∧ -2139095040 ≤ hi ∧ hi ≤ 2139095040) := by
    intro h
    have := pokB_in h
    rw [okB_32, okB_32] at this
    have k1 := of_decide_eq_true this.1
    have k2 := of_decide_eq_true this.2.1
    exact ⟨k1.1, k1.2, k2.1, k2.2⟩
  have hr : Hid (pokB 32 lo hi = pokB 32 lo hi) := rfl
  generalize widI lo = x at *
  generalize widI hi = y at *
  generalize pokB 32 lo hi = r at *
  go_enter Try.func33, Try.ntmps33
  go_wp2_with fail
  refine (H1.out _).mono ?_
  rintro e w1 ⟨rfl, hb1⟩
  have K := ((Cel2.made w _ rfl (.int .i64 lo) (.int .i64 hi) 42).alloc _).later hb1
  have R := (Cel2.made _ (w.heap.size + 1) (by simp) (.int .i64 0) (.int .i64 0) 42).later hb1
  cases r
  · obtain ⟨d0, d1, d2, d3, d4⟩ := R
    go_wp2
    refine bodyPost_ret (v := .tuple #[.agg #[.int .i64 0, .int .i64 0], .bool false]) ?_ rfl ⟨pairV_no _ _ rfl, (by repeat (first | exact Below.refl _ _ | refine Below.drew ?_ | refine Below.setCell ?_ (by first | (simp; done) | omega | (simp; omega)) _ | refine old_alloc ?_ _ | refine old_trans ?_ (by assumption)))⟩
    simp [results, Try.results33, go_sem, d0, d1]
  have kk := hk.out (by simp)
  clear hk
  have a0 := K.1
  have a1 := K.2.1
  go_wp2_with fail
  refine (H2.out kk.1 kk.2.1 _).mono ?_
  rintro e w2 ⟨rfl, hb2⟩
  replace R := R.later hb2
  replace K := K.later hb2
  obtain ⟨a0, a1, -, -, -⟩ := K
  go_wp2_with fail
  refine (H3.out kk.2.2.1 kk.2.2.2 _).mono ?_
  rintro e w3 ⟨rfl, hb3⟩
  replace R := R.later hb3
  clear a0 a1
  obtain ⟨d0, d1, d2, d3, d4⟩ := R
  go_wp2
  refine bodyPost_ret (v := .tuple #[.agg #[.int .i64 x, .int .i64 y], .bool true]) ?_ rfl ⟨pairV_yes _ _ rfl, (by repeat (first | exact Below.refl _ _ | refine Below.drew ?_ | refine Below.setCell ?_ (by first | (simp; done) | omega | (simp; omega)) _ | refine old_alloc ?_ _ | refine old_trans ?_ (by assumption)))⟩
  simp [results, Try.results33, go_sem, d0, d1]

end Go.Proofs.Ytpnfkigeagbhpaa
