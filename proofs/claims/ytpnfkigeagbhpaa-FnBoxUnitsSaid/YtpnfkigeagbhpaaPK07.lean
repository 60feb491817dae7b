/- PairMeet and PairHull of the program and of the specification, at all pairs; nothing that was there is written. -/
import Derived.Test.YtpnfkigeagbhpaaPK06
import Derived.Test.YtpnfkigeagbhpaaPK01
import Derived.Deep.RegionHeld3
import Derived.Test.YtpnfkigeagbhpaaPK03
namespace Go.Proofs.Ytpnfkigeagbhpaa
open Go.RowKit

/-- two cells of a block of our own, that may be written -/
def Cel2 (w : World) (b : Nat) (x y : Value) : Prop := w.cell? ⟨b, 0, none⟩ = some x ∧ w.cell? ⟨b, 1, none⟩ = some y ∧ w.frozen? ⟨b, 0, none⟩ = false ∧ w.frozen? ⟨b, 1, none⟩ = false ∧ b < w.heap.size
theorem Cel2.later {w w1 : World} {b : Nat} {x y : Value} (h : Cel2 w b x y) (hb : Below w.heap.size w w1) : Cel2 w1 b x y := by
  obtain ⟨h1, h2, h3, h4, h5⟩ := h
  exact ⟨(hb.cell (p := ⟨b, 0, none⟩) h5).trans h1, (hb.cell (p := ⟨b, 1, none⟩) h5).trans h2, (hb.frozen (p := ⟨b, 0, none⟩) h5).trans h3, (hb.frozen (p := ⟨b, 1, none⟩) h5).trans h4, Nat.lt_of_lt_of_le h5 hb.size⟩
theorem Cel2.alloc {w : World} {b : Nat} {x y : Value} (h : Cel2 w b x y) (o : Obj) : Cel2 (w.alloc o) b x y := h.later ((Below.refl _ _).alloc (Nat.le_refl _) o)
theorem Cel2.drew {w : World} {b : Nat} {x y : Value} (h : Cel2 w b x y) : Cel2 w.drew b x y := h
theorem Cel2.made (w : World) (b : Nat) (hb : b = w.heap.size) (x y : Value) (t : TypeId) : Cel2 (w.alloc (.cells #[x, y] t)) b x y := by subst hb; exact ⟨by simp, by simp, by simp, by simp, by simp⟩

theorem lt3 {w w1 : World} {o1 o2 o3 : Obj} (hb : Below (((w.alloc o1).alloc o2).alloc o3).heap.size (((w.alloc o1).alloc o2).alloc o3) w1) : w.heap.size < w1.heap.size ∧ w.heap.size + 1 < w1.heap.size ∧ w.heap.size + 1 + 1 < w1.heap.size := by
  have := hb.size
  simp at this
  omega
end Go.Proofs.Ytpnfkigeagbhpaa

/- Steps and middles that leave the world as it was; counted and l3Gap; PairSplit of the program and of the specification. -/
namespace Go.Proofs.Ytpnfkigeagbhpaa
open Go.RowKit

theorem gapI_bd (lo hi : Int) (l1 : -9223372036854775808 ≤ lo) (k2 : hi ≤ 9223372036854775807) : 0 ≤ gapI lo hi ∧ gapI lo hi ≤ 18446744073709551615 := by unfold gapI; split <;> omega
set_option maxHeartbeats 800000 in
theorem iGapW (lo hi : Int) (l1 : -9223372036854775808 ≤ lo) (l2 : lo ≤ 9223372036854775807) (k1 : -9223372036854775808 ≤ hi) (k2 : hi ≤ 9223372036854775807) (w : World) :
    Calls Try.prog 77 #[.int .i64 lo, .int .i64 hi] w fun e w' => e = .returned (.int .u64 (gapI lo hi)) ∧ w' = w := by
  go_enter Try.func77, Try.ntmps77
  go_wp2
  all_goals
    go_ret
    refine ⟨ret_int ?_, rfl⟩
    try simp only [IntKind.wrap_u64]
    unfold gapI
    split <;> omega
set_option maxHeartbeats 800000 in
theorem sGapW (lo hi : Int) (l1 : -9223372036854775808 ≤ lo) (l2 : lo ≤ 9223372036854775807) (k1 : -9223372036854775808 ≤ hi) (k2 : hi ≤ 9223372036854775807) (w : World) :
    Calls Try.prog 84 #[.int .i64 lo, .int .i64 hi] w fun e w' => e = .returned (.int .u64 (gapI lo hi)) ∧ w' = w := by
  go_enter Try.func84, Try.ntmps84
  go_wp2
  all_goals
    go_ret
    refine ⟨ret_int ?_, rfl⟩
    try simp only [IntKind.wrap_u64]
    unfold gapI
    split <;> omega
set_option maxHeartbeats 800000 in
theorem sPGap (lo hi : Int) (l1 : -9223372036854775808 ≤ lo) (l2 : lo ≤ 9223372036854775807) (k1 : -9223372036854775808 ≤ hi) (k2 : hi ≤ 9223372036854775807) (w : World) :
    Calls Try.prog 82 #[.agg #[.int .i64 lo, .int .i64 hi]] w fun e w' => e = .returned (.int .u64 (gapI lo hi)) ∧ w' = w.alloc (.cells #[.int .i64 lo, .int .i64 hi] 42) := by
  have H := hd (sGapW lo hi l1 l2 k1 k2)
  generalize gapI lo hi = g at *
  go_enter Try.func82, Try.ntmps82
  go_wp2_with (go_at_call 84; refine (H.out _).mono ?_; rintro e w1 ⟨rfl, rfl⟩)
  go_ret
  exact ⟨rfl, rfl⟩
theorem sPGapB (lo hi : Int) (l1 : -9223372036854775808 ≤ lo) (l2 : lo ≤ 9223372036854775807) (k1 : -9223372036854775808 ≤ hi) (k2 : hi ≤ 9223372036854775807) (w : World) :
    Calls Try.prog 82 #[.agg #[.int .i64 lo, .int .i64 hi]] w fun e w' => e = .returned (.int .u64 (gapI lo hi)) ∧ Below w.heap.size w w' := by
  refine (sPGap lo hi l1 l2 k1 k2 w).mono ?_
  rintro e w1 ⟨rfl, rfl⟩
  exact ⟨rfl, (by repeat (first | exact Below.refl _ _ | refine Below.drew ?_ | refine old_alloc ?_ _ | refine old_trans ?_ (by assumption)))⟩
set_option maxHeartbeats 800000 in
theorem iCounted (lo hi : Int) (l1 : -9223372036854775808 ≤ lo) (l2 : lo ≤ 9223372036854775807) (k1 : -9223372036854775808 ≤ hi) (k2 : hi ≤ 9223372036854775807) (w : World) :
    Calls Try.prog 46 #[.agg #[.int .i64 lo, .int .i64 hi]] w fun e w' => e = .returned (.agg #[.int .u64 (gapI lo hi), .int .i64 lo, .int .i64 hi]) ∧ Below w.heap.size w w' := by
  have H := hd (iGapW lo hi l1 l2 k1 k2)
  generalize gapI lo hi = g at *
  go_enter Try.func46, Try.ntmps46
  go_wp2_with fail
  go_region_held3 (fun w' => w'.cell? ⟨w.heap.size, 0, none⟩ = some (.int .i64 lo) ∧ w'.cell? ⟨w.heap.size, 1, none⟩ = some (.int .i64 hi)) (go_keep) (first | (go_at_call 77; refine (H.out _).mono ?_; rintro e w1 ⟨rfl, rfl⟩))
  all_goals
    go_wp2
    refine bodyPost_ret (v := .agg #[.int .u64 g, .int .i64 lo, .int .i64 hi]) ?_ rfl ⟨rfl, (by repeat (first | exact Below.refl _ _ | refine Below.drew ?_ | refine Below.setCell ?_ (by first | (simp; done) | omega | (simp; omega)) _ | refine old_alloc ?_ _ | refine old_trans ?_ (by assumption)))⟩
    simp [results, Try.results46, go_sem]
theorem fld_count (g lo hi : Int) (w : World) : (Instr.field 66 (.agg #[.int .u64 g, .int .i64 lo, .int .i64 hi]) 0).run Try.prog w = .ok (.agg #[.int .u64 g]) w := by kernel_rfl
theorem fld_steps (g : Int) (w : World) : (Instr.field 64 (.agg #[.int .u64 g]) 0).run Try.prog w = .ok (.int .u64 g) w := by kernel_rfl
end Go.Proofs.Ytpnfkigeagbhpaa

/- PairSplit of the program and of the specification, at all pairs: one closed form for both; nothing that was there is written. -/
namespace Go.Proofs.Ytpnfkigeagbhpaa
open Go.RowKit

def pair2V (r : Bool) (a b c d : Int) : Value := .tuple #[if r then .agg #[.int .i64 a, .int .i64 b] else .agg #[.int .i64 0, .int .i64 0], if r then .agg #[.int .i64 c, .int .i64 d] else .agg #[.int .i64 0, .int .i64 0], .bool r]
theorem pair2V_no (a b c d : Int) {r : Bool} (h : r = false) : Ending.returned (.tuple #[.agg #[.int .i64 0, .int .i64 0], .agg #[.int .i64 0, .int .i64 0], .bool false]) = .returned (pair2V r a b c d) := by rw [h]; rfl
theorem pair2V_yes (a b c d : Int) {r : Bool} (h : r = true) : Ending.returned (.tuple #[.agg #[.int .i64 a, .int .i64 b], .agg #[.int .i64 c, .int .i64 d], .bool true]) = .returned (pair2V r a b c d) := by rw [h]; rfl
def splitB (wd lo hi : Int) : Bool := pokB wd lo hi && decide (2 ≤ gapI lo hi)

set_option maxHeartbeats 800000 in
theorem iMidW (lo hi : Int) (l1 : -9223372036854775808 ≤ lo) (l2 : lo ≤ 9223372036854775807) (k1 : -9223372036854775808 ≤ hi) (k2 : hi ≤ 9223372036854775807) (w : World) :
    Calls Try.prog 81 #[.int .i64 lo, .int .i64 hi] w fun e w' => e = .returned (.int .i64 (midI lo hi)) ∧ w' = w := by
  have q1 : 0 ≤ gapI lo hi := by unfold gapI; split <;> omega
  have q2 : gapI lo hi ≤ 18446744073709551615 := by unfold gapI; split <;> omega
  have q3 : Hid (lo + gapI lo hi / 2 ≤ 9223372036854775807) := by show _ ≤ _; unfold gapI; split <;> omega
  have q4 : Hid (midI lo hi = lo + gapI lo hi / 2) := rfl
  go_enter Try.func81, Try.ntmps81
  go_wp2_with (go_at_call 77; refine (iGapW _ _ l1 l2 k1 k2 _).mono ?_; rintro e w1 ⟨rfl, rfl⟩)
  generalize gapI lo hi = g at *
  go_wp2
  go_ret
  refine ⟨ret_int ?_, rfl⟩
  rw [q4.out]
  have q5 := q3.out
  simp only [wrap64]
  omega
set_option maxHeartbeats 800000 in
theorem sMidW (lo hi : Int) (l1 : -9223372036854775808 ≤ lo) (l2 : lo ≤ 9223372036854775807) (k1 : -9223372036854775808 ≤ hi) (k2 : hi ≤ 9223372036854775807) (w : World) :
    Calls Try.prog 83 #[.int .i64 lo, .int .i64 hi] w fun e w' => e = .returned (.int .i64 (midI lo hi)) ∧ w' = w := by
  have q1 : 0 ≤ gapI lo hi := by unfold gapI; split <;> omega
  have q2 : gapI lo hi ≤ 18446744073709551615 := by unfold gapI; split <;> omega
  have q3 : Hid (lo + gapI lo hi / 2 ≤ 9223372036854775807) := by show _ ≤ _; unfold gapI; split <;> omega
  have q4 : Hid (midI lo hi = lo + gapI lo hi / 2) := rfl
  go_enter Try.func83, Try.ntmps83
  go_wp2_with (go_at_call 84; refine (sGapW _ _ l1 l2 k1 k2 _).mono ?_; rintro e w1 ⟨rfl, rfl⟩)
  generalize gapI lo hi = g at *
  go_wp2
  go_ret
  refine ⟨ret_int ?_, rfl⟩
  rw [q4.out]
  have q5 := q3.out
  simp only [IntKind.wrap_u64, wrap64]
  omega

set_option maxRecDepth 100000 in
set_option maxHeartbeats 1600000 in
theorem iPairSplit (wd lo hi : Int) (l1 : -9223372036854775808 ≤ lo) (l2 : lo ≤ 9223372036854775807) (k1 : -9223372036854775808 ≤ hi) (k2 : hi ≤ 9223372036854775807) (w : World) :
    Calls Try.prog 54 #[.int .i64 wd, .agg #[.int .i64 lo, .int .i64 hi]] w fun e w' => e = .returned (pair2V (splitB wd lo hi) lo (midI lo hi) (midI lo hi) hi) ∧ Below w.heap.size w w' := by
  have H1 := hd (iPairOk wd lo hi)
  have H2 := hd (iCounted lo hi l1 l2 k1 k2)
  have H3 := hd (iMidW lo hi l1 l2 k1 k2)
  have hr : Hid (splitB wd lo hi = (pokB wd lo hi && decide (2 ≤ gapI lo hi))) := rfl
  obtain ⟨g1, g2⟩ := gapI_bd lo hi l1 k2
  generalize midI lo hi = m at *
  generalize gapI lo hi = g at *
  generalize splitB wd lo hi = r at *
  generalize pokB wd lo hi = p at *
  have x1 := fld_count g lo hi
  have x2 := fld_steps g
  go_enter Try.func54, Try.ntmps54
  go_wp2_with fail
  refine (H1.out _).mono ?_
  rintro e w1 ⟨rfl, hb1⟩
  obtain ⟨hc1, hf1⟩ := bcell hb1
  obtain ⟨u1, u2, u3⟩ := lt3 hb1
  have R1 := ((Cel2.made _ _ (by simp) _ _ _ : Cel2 _ (w.heap.size + 1) (.int .i64 0) (.int .i64 0)).alloc _).later hb1
  have R2 := (Cel2.made _ _ (by simp) _ _ _ : Cel2 _ (w.heap.size + 1 + 1) (.int .i64 0) (.int .i64 0)).later hb1
  have A1 := (((Cel2.made w _ rfl (.int .i64 lo) (.int .i64 hi) 42).alloc _).alloc _).later hb1
  cases p
  · obtain ⟨d0, d1, d2, d3, d4⟩ := R1
    obtain ⟨f0, f1, f2, f3, f4⟩ := R2
    clear hc1 hf1
    have n1 : w.heap.size ≠ w.heap.size + 1 + 1 := by omega
    have n2 : w.heap.size + 1 + 1 ≠ w.heap.size := by omega
    go_wp2
    refine bodyPost_ret (v := .tuple #[.agg #[.int .i64 0, .int .i64 0], .agg #[.int .i64 0, .int .i64 0], .bool false]) ?_ rfl ⟨pair2V_no _ _ _ _ (by rw [hr.out]; rfl), (by repeat (first | exact Below.refl _ _ | refine Below.drew ?_ | refine Below.setCell ?_ (by first | (simp; done) | omega | (simp; omega)) _ | refine old_alloc ?_ _ | refine old_trans ?_ (by assumption)))⟩
    simp [results, Try.results54, go_sem, d0, d1, f0, f1]
  go_wp2_with fail
  refine (H2.out _).mono ?_
  rintro e w2 ⟨rfl, hb2⟩
  replace R1 := R1.later hb2
  replace R2 := R2.later hb2
  replace A1 := A1.later hb2
  by_cases c : g < 2
  · have c1 : Hid (decide (2 ≤ g) = false) := by show _ = _; simp; omega
    have c2 : decide (g < 2) = true := by simp; omega
    obtain ⟨d0, d1, d2, d3, d4⟩ := R1
    obtain ⟨f0, f1, f2, f3, f4⟩ := R2
    clear hc1 hf1
    have n1 : w.heap.size ≠ w.heap.size + 1 + 1 := by omega
    have n2 : w.heap.size + 1 + 1 ≠ w.heap.size := by omega
    go_wp2
    refine bodyPost_ret (v := .tuple #[.agg #[.int .i64 0, .int .i64 0], .agg #[.int .i64 0, .int .i64 0], .bool false]) ?_ rfl ⟨pair2V_no _ _ _ _ (by rw [hr.out, c1.out]; rfl), (by repeat (first | exact Below.refl _ _ | refine Below.drew ?_ | refine Below.setCell ?_ (by first | (simp; done) | omega | (simp; omega)) _ | refine old_alloc ?_ _ | refine old_trans ?_ (by assumption)))⟩
    simp [results, Try.results54, go_sem, d0, d1, f0, f1]
  · have c1 : Hid (decide (2 ≤ g) = true) := by show _ = _; simp; omega
    have c2 : decide (g < 2) = false := by simp; omega
    obtain ⟨a0, a1, a2, a3, a4⟩ := A1
    obtain ⟨d0, d1, d2, d3, d4⟩ := R1
    obtain ⟨f0, f1, f2, f3, f4⟩ := R2
    clear hc1 hf1
    have n1 : w.heap.size ≠ w.heap.size + 1 + 1 := by omega
    have n2 : w.heap.size + 1 + 1 ≠ w.heap.size := by omega
    go_wp2_with fail
    refine (H3.out _).mono ?_
    rintro e w3 ⟨rfl, rfl⟩
    go_wp2_with fail
    go_region_held3 (fun w' => w'.cell? ⟨w.heap.size, 0, none⟩ = some (.int .i64 lo) ∧ w'.cell? ⟨w.heap.size, 1, none⟩ = some (.int .i64 hi)) (go_keep) (fail)
    all_goals
      go_wp2
      refine bodyPost_ret (v := .tuple #[.agg #[.int .i64 lo, .int .i64 m], .agg #[.int .i64 m, .int .i64 hi], .bool true]) ?_ rfl ⟨pair2V_yes _ _ _ _ (by rw [hr.out, c1.out]; rfl), (by repeat (first | exact Below.refl _ _ | refine Below.drew ?_ | refine Below.setCell ?_ (by first | (simp; done) | omega | (simp; omega)) _ | refine old_alloc ?_ _ | refine old_trans ?_ (by assumption)))⟩
      simp [results, Try.results54, go_sem, d0, d1, f0, f1]

set_option maxRecDepth 100000 in
set_option maxHeartbeats 1600000 in
theorem sPairSplit (wd lo hi : Int) (l1 : -9223372036854775808 ≤ lo) (l2 : lo ≤ 9223372036854775807) (k1 : -9223372036854775808 ≤ hi) (k2 : hi ≤ 9223372036854775807) (w : World) :
    Calls Try.prog 55 #[.int .i64 wd, .agg #[.int .i64 lo, .int .i64 hi]] w fun e w' => e = .returned (pair2V (splitB wd lo hi) lo (midI lo hi) (midI lo hi) hi) ∧ Below w.heap.size w w' := by
  have H1 := hd (sPairOk wd lo hi)
  have H2 := hd (sPGapB lo hi l1 l2 k1 k2)
  have H3 := hd (sMidW lo hi l1 l2 k1 k2)
  have hr : Hid (splitB wd lo hi = (pokB wd lo hi && decide (2 ≤ gapI lo hi))) := rfl
  obtain ⟨g1, g2⟩ := gapI_bd lo hi l1 k2
  generalize midI lo hi = m at *
  generalize gapI lo hi = g at *
  generalize splitB wd lo hi = r at *
  generalize pokB wd lo hi = p at *
  go_enter Try.func55, Try.ntmps55
  go_wp2_with fail
  refine (H1.out _).mono ?_
  rintro e w1 ⟨rfl, hb1⟩
  obtain ⟨hc1, hf1⟩ := bcell hb1
  obtain ⟨u1, u2, u3⟩ := lt3 hb1
  have R1 := ((Cel2.made _ _ (by simp) _ _ _ : Cel2 _ (w.heap.size + 1) (.int .i64 0) (.int .i64 0)).alloc _).later hb1
  have R2 := (Cel2.made _ _ (by simp) _ _ _ : Cel2 _ (w.heap.size + 1 + 1) (.int .i64 0) (.int .i64 0)).later hb1
  have A1 := (((Cel2.made w _ rfl (.int .i64 lo) (.int .i64 hi) 42).alloc _).alloc _).later hb1
  cases p
  · obtain ⟨d0, d1, d2, d3, d4⟩ := R1
    obtain ⟨f0, f1, f2, f3, f4⟩ := R2
    clear hc1 hf1
    have n1 : w.heap.size ≠ w.heap.size + 1 + 1 := by omega
    have n2 : w.heap.size + 1 + 1 ≠ w.heap.size := by omega
    go_wp2
    refine bodyPost_ret (v := .tuple #[.agg #[.int .i64 0, .int .i64 0], .agg #[.int .i64 0, .int .i64 0], .bool false]) ?_ rfl ⟨pair2V_no _ _ _ _ (by rw [hr.out]; rfl), (by repeat (first | exact Below.refl _ _ | refine Below.drew ?_ | refine Below.setCell ?_ (by first | (simp; done) | omega | (simp; omega)) _ | refine old_alloc ?_ _ | refine old_trans ?_ (by assumption)))⟩
    simp [results, Try.results55, go_sem, d0, d1, f0, f1]
  go_wp2_with fail
  refine (H2.out _).mono ?_
  rintro e w2 ⟨rfl, hb2⟩
  replace R1 := R1.later hb2
  replace R2 := R2.later hb2
  replace A1 := A1.later hb2
  by_cases c : g < 2
  · have c1 : Hid (decide (2 ≤ g) = false) := by show _ = _; simp; omega
    have c2 : decide (g < 2) = true := by simp; omega
    obtain ⟨d0, d1, d2, d3, d4⟩ := R1
    obtain ⟨f0, f1, f2, f3, f4⟩ := R2
    clear hc1 hf1
    have n1 : w.heap.size ≠ w.heap.size + 1 + 1 := by omega
    have n2 : w.heap.size + 1 + 1 ≠ w.heap.size := by omega
    go_wp2
    refine bodyPost_ret (v := .tuple #[.agg #[.int .i64 0, .int .i64 0], .agg #[.int .i64 0, .int .i64 0], .bool false]) ?_ rfl ⟨pair2V_no _ _ _ _ (by rw [hr.out, c1.out]; rfl), (by repeat (first | exact Below.refl _ _ | refine Below.drew ?_ | refine Below.setCell ?_ (by first | (simp; done) | omega | (simp; omega)) _ | refine old_alloc ?_ _ | refine old_trans ?_ (by assumption)))⟩
    simp [results, Try.results55, go_sem, d0, d1, f0, f1]
  · have c1 : Hid (decide (2 ≤ g) = true) := by show _ = _; simp; omega
    have c2 : decide (g < 2) = false := by simp; omega
    obtain ⟨a0, a1, a2, a3, a4⟩ := A1
    obtain ⟨d0, d1, d2, d3, d4⟩ := R1
    obtain ⟨f0, f1, f2, f3, f4⟩ := R2
    clear hc1 hf1
    have n1 : w.heap.size ≠ w.heap.size + 1 + 1 := by omega
    have n2 : w.heap.size + 1 + 1 ≠ w.heap.size := by omega
    go_wp2_with fail
    refine (H3.out _).mono ?_
    rintro e w3 ⟨rfl, rfl⟩
    go_wp2_with fail
    go_region_held3 (fun w' => w'.cell? ⟨w.heap.size, 0, none⟩ = some (.int .i64 lo) ∧ w'.cell? ⟨w.heap.size, 1, none⟩ = some (.int .i64 hi)) (go_keep) (fail)
    all_goals
      go_wp2
      refine bodyPost_ret (v := .tuple #[.agg #[.int .i64 lo, .int .i64 m], .agg #[.int .i64 m, .int .i64 hi], .bool true]) ?_ rfl ⟨pair2V_yes _ _ _ _ (by rw [hr.out, c1.out]; rfl), (by repeat (first | exact Below.refl _ _ | refine Below.drew ?_ | refine Below.setCell ?_ (by first | (simp; done) | omega | (simp; omega)) _ | refine old_alloc ?_ _ | refine old_trans ?_ (by assumption)))⟩
      simp [results, Try.results55, go_sem, d0, d1, f0, f1]
end Go.Proofs.Ytpnfkigeagbhpaa

/- PairCut of the program and of the specification, at all pairs: one closed form for both; nothing that was there is written. -/
namespace Go.Proofs.Ytpnfkigeagbhpaa
open Go.RowKit

def cutB (wd a b c d : Int) : Bool := pokB wd a b && (decide (c < d) && (pokB wd a c && pokB wd d b))
def cutV (wd a b c d : Int) : Value := if gapI d b < gapI a c then pair2V (cutB wd a b c d) d b a c else pair2V (cutB wd a b c d) a c d b
theorem cutV_hi {wd a b c d : Int} (h : gapI d b < gapI a c) : cutV wd a b c d = pair2V (cutB wd a b c d) d b a c := by unfold cutV; rw [if_pos h]
theorem cutV_lo {wd a b c d : Int} (h : ¬ gapI d b < gapI a c) : cutV wd a b c d = pair2V (cutB wd a b c d) a c d b := by unfold cutV; rw [if_neg h]
theorem cutV_no {wd a b c d : Int} (h : cutB wd a b c d = false) : Ending.returned (.tuple #[.agg #[.int .i64 0, .int .i64 0], .agg #[.int .i64 0, .int .i64 0], .bool false]) = .returned (cutV wd a b c d) := by
  unfold cutV; split <;> exact pair2V_no _ _ _ _ h
theorem cutV_yes1 {wd a b c d : Int} (h : cutB wd a b c d = true) (g : gapI d b < gapI a c) : Ending.returned (.tuple #[.agg #[.int .i64 d, .int .i64 b], .agg #[.int .i64 a, .int .i64 c], .bool true]) = .returned (cutV wd a b c d) := by
  rw [cutV_hi g]; exact pair2V_yes _ _ _ _ h
theorem cutV_yes2 {wd a b c d : Int} (h : cutB wd a b c d = true) (g : ¬ gapI d b < gapI a c) : Ending.returned (.tuple #[.agg #[.int .i64 a, .int .i64 c], .agg #[.int .i64 d, .int .i64 b], .bool true]) = .returned (cutV wd a b c d) := by
  rw [cutV_lo g]; exact pair2V_yes _ _ _ _ h
/-- three cells of a block of our own -/
def Cel3 (w : World) (b : Nat) (x y z : Value) : Prop := w.cell? ⟨b, 0, none⟩ = some x ∧ w.cell? ⟨b, 1, none⟩ = some y ∧ w.cell? ⟨b, 1 + 1, none⟩ = some z ∧ w.cell? ⟨b, 2, none⟩ = some z ∧ b < w.heap.size
theorem Cel3.later {w w1 : World} {b : Nat} {x y z : Value} (h : Cel3 w b x y z) (hb : Below w.heap.size w w1) : Cel3 w1 b x y z := by
  obtain ⟨h1, h2, h3, h4, h5⟩ := h
  exact ⟨(hb.cell (p := ⟨b, 0, none⟩) h5).trans h1, (hb.cell (p := ⟨b, 1, none⟩) h5).trans h2, (hb.cell (p := ⟨b, 1 + 1, none⟩) h5).trans h3, (hb.cell (p := ⟨b, 2, none⟩) h5).trans h4, Nat.lt_of_lt_of_le h5 hb.size⟩
theorem Cel3.alloc {w : World} {b : Nat} {x y z : Value} (h : Cel3 w b x y z) (o : Obj) : Cel3 (w.alloc o) b x y z := h.later ((Below.refl _ _).alloc (Nat.le_refl _) o)
theorem Cel3.made (w : World) (b : Nat) (hb : b = w.heap.size) (x y z : Value) (t : TypeId) : Cel3 (w.alloc (.cells #[x, y, z] t)) b x y z := by subst hb; exact ⟨by simp, by simp, by simp, by simp, by simp⟩

set_option maxRecDepth 100000 in
set_option maxHeartbeats 4000000 in
theorem iPairCut (wd a b c d : Int) (l1 : -9223372036854775808 ≤ a ∧ a ≤ 9223372036854775807) (l2 : -9223372036854775808 ≤ b ∧ b ≤ 9223372036854775807) (l3 : -9223372036854775808 ≤ c ∧ c ≤ 9223372036854775807) (l4 : -9223372036854775808 ≤ d ∧ d ≤ 9223372036854775807) (w : World) :
    Calls Try.prog 59 #[.int .i64 wd, .agg #[.int .i64 a, .int .i64 b], .agg #[.int .i64 c, .int .i64 d]] w fun e w' => e = .returned (cutV wd a b c d) ∧ Below w.heap.size w w' := by
  have H1 := hd (iCounted a c l1.1 l1.2 l3.1 l3.2)
  have H2 := hd (iCounted d b l4.1 l4.2 l2.1 l2.2)
  have P1 := hd (iPairOk wd a b)
  have P2 := hd (iPairOk wd a c)
  have P3 := hd (iPairOk wd d b)
  have hr : Hid (cutB wd a b c d = (pokB wd a b && (decide (c < d) && (pokB wd a c && pokB wd d b)))) := rfl
  have V0 : Hid (cutB wd a b c d = false → Ending.returned (.tuple #[.agg #[.int .i64 0, .int .i64 0], .agg #[.int .i64 0, .int .i64 0], .bool false]) = .returned (cutV wd a b c d)) := cutV_no
  have V1 : Hid (cutB wd a b c d = true → gapI d b < gapI a c → Ending.returned (.tuple #[.agg #[.int .i64 d, .int .i64 b], .agg #[.int .i64 a, .int .i64 c], .bool true]) = .returned (cutV wd a b c d)) := cutV_yes1
  have V2 : Hid (cutB wd a b c d = true → ¬ gapI d b < gapI a c → Ending.returned (.tuple #[.agg #[.int .i64 a, .int .i64 c], .agg #[.int .i64 d, .int .i64 b], .bool true]) = .returned (cutV wd a b c d)) := cutV_yes2
  obtain ⟨g1, g2⟩ := gapI_bd a c l1.1 l3.2
  obtain ⟨g3, g4⟩ := gapI_bd d b l4.1 l2.2
  generalize gapI a c = ga at *
  generalize gapI d b = gb at *
  generalize cutV wd a b c d = V at *
  generalize cutB wd a b c d = r at *
  generalize pokB wd a b = p1 at *
  generalize pokB wd a c = p2 at *
  generalize pokB wd d b = p3 at *
  clear l1 l2 l3 l4
  go_enter Try.func59, Try.ntmps59
  go_wp2_with fail
  refine (H1.out _).mono ?_
  rintro e w1 ⟨rfl, hb1⟩
  have A1 := ((((Cel2.made w _ rfl (.int .i64 a) (.int .i64 b) 42).alloc _).alloc _).alloc _).later hb1
  have G1 := (((Cel2.made _ (w.heap.size + 1) (by simp) (.int .i64 c) (.int .i64 d) 42).alloc _).alloc _).later hb1
  have R1 := ((Cel2.made _ (w.heap.size + 1 + 1) (by simp) (.int .i64 0) (.int .i64 0) 42).alloc _).later hb1
  have R2 := (Cel2.made _ (w.heap.size + 1 + 1 + 1) (by simp) (.int .i64 0) (.int .i64 0) 42).later hb1
  have z1 : w.heap.size < w1.heap.size ∧ w.heap.size + 1 < w1.heap.size ∧ w.heap.size + 1 + 1 < w1.heap.size ∧ w.heap.size + 1 + 1 + 1 < w1.heap.size := by have := hb1.size; simp at this; omega
  obtain ⟨u0, u1, u2, u3⟩ := z1
  have A0 := A1
  obtain ⟨a0, a1, -, -, -⟩ := A0
  have G0 := G1
  obtain ⟨c0, c1, -, -, -⟩ := G0
  go_wp2_with fail
  refine (H2.out _).mono ?_
  rintro e w2 ⟨rfl, hb2⟩
  clear a0 a1 c0 c1
  have L1 := (Cel3.made w1 _ rfl (.int .u64 ga) (.int .i64 a) (.int .i64 c) 66).later hb2
  replace A1 := (A1.alloc _).later hb2
  replace G1 := (G1.alloc _).later hb2
  replace R1 := (R1.alloc _).later hb2
  replace R2 := (R2.alloc _).later hb2
  have z2 : w.heap.size < w2.heap.size ∧ w.heap.size + 1 < w2.heap.size ∧ w.heap.size + 1 + 1 < w2.heap.size ∧ w.heap.size + 1 + 1 + 1 < w2.heap.size ∧ w1.heap.size < w2.heap.size := by have := hb2.size; simp at this; omega
  obtain ⟨v0, v1, v2, v3, v4⟩ := z2
  have A0 := A1
  obtain ⟨a0, a1, -, -, -⟩ := A0
  have G0 := G1
  obtain ⟨c0, c1, -, -, -⟩ := G0
  go_wp2_with fail
  refine (P1.out _).mono ?_
  rintro e w3 ⟨rfl, hb3⟩
  clear a0 a1 c0 c1
  have M1 := (Cel3.made w2 _ rfl (.int .u64 gb) (.int .i64 d) (.int .i64 b) 66).later hb3
  replace L1 := (L1.alloc _).later hb3
  replace A1 := (A1.alloc _).later hb3
  replace G1 := (G1.alloc _).later hb3
  replace R1 := (R1.alloc _).later hb3
  replace R2 := (R2.alloc _).later hb3
  have m01 : w.heap.size ≠ w1.heap.size := by omega
  have o01 : w1.heap.size ≠ w.heap.size := by omega
  have m02 : w.heap.size ≠ w2.heap.size := by omega
  have o02 : w2.heap.size ≠ w.heap.size := by omega
  have m11 : w.heap.size + 1 ≠ w1.heap.size := by omega
  have o11 : w1.heap.size ≠ w.heap.size + 1 := by omega
  have m12 : w.heap.size + 1 ≠ w2.heap.size := by omega
  have o12 : w2.heap.size ≠ w.heap.size + 1 := by omega
  have m21 : w.heap.size + 1 + 1 ≠ w1.heap.size := by omega
  have o21 : w1.heap.size ≠ w.heap.size + 1 + 1 := by omega
  have m22 : w.heap.size + 1 + 1 ≠ w2.heap.size := by omega
  have o22 : w2.heap.size ≠ w.heap.size + 1 + 1 := by omega
  have m31 : w.heap.size + 1 + 1 + 1 ≠ w1.heap.size := by omega
  have o31 : w1.heap.size ≠ w.heap.size + 1 + 1 + 1 := by omega
  have m32 : w.heap.size + 1 + 1 + 1 ≠ w2.heap.size := by omega
  have o32 : w2.heap.size ≠ w.heap.size + 1 + 1 + 1 := by omega
  have m9 : w1.heap.size ≠ w2.heap.size := by omega
  have o9 : w2.heap.size ≠ w1.heap.size := by omega
  have n02 : w.heap.size ≠ w.heap.size + 1 + 1 := by omega
  have n20 : w.heap.size + 1 + 1 ≠ w.heap.size := by omega
  have n03 : w.heap.size ≠ w.heap.size + 1 + 1 + 1 := by omega
  have n30 : w.heap.size + 1 + 1 + 1 ≠ w.heap.size := by omega
  have n13 : w.heap.size + 1 ≠ w.heap.size + 1 + 1 + 1 := by omega
  have n31 : w.heap.size + 1 + 1 + 1 ≠ w.heap.size + 1 := by omega
  cases p1
  · obtain ⟨d0, d1, d2, d3, d4⟩ := R1
    obtain ⟨f0, f1, f2, f3, f4⟩ := R2
    go_wp2
    refine bodyPost_ret (v := .tuple #[.agg #[.int .i64 0, .int .i64 0], .agg #[.int .i64 0, .int .i64 0], .bool false]) ?_ rfl ⟨V0.out (by rw [hr.out]; rfl), (by repeat (first | exact Below.refl _ _ | refine Below.drew ?_ | refine Below.setCell ?_ (by first | (simp; done) | omega | (simp; omega)) _ | refine old_alloc ?_ _ | refine old_trans ?_ (by assumption)))⟩
    simp [results, Try.results59, go_sem, d0, d1, f0, f1]
  by_cases c1 : d ≤ c
  · have t1 : decide (d ≤ c) = true := by simpa using c1
    have t2 : Hid (decide (c < d) = false) := by show _ = _; simp; omega
    obtain ⟨q0, q1, -, -, -⟩ := G1
    obtain ⟨d0, d1, d2, d3, d4⟩ := R1
    obtain ⟨f0, f1, f2, f3, f4⟩ := R2
    go_wp2
    refine bodyPost_ret (v := .tuple #[.agg #[.int .i64 0, .int .i64 0], .agg #[.int .i64 0, .int .i64 0], .bool false]) ?_ rfl ⟨V0.out (by rw [hr.out, t2.out]; rfl), (by repeat (first | exact Below.refl _ _ | refine Below.drew ?_ | refine Below.setCell ?_ (by first | (simp; done) | omega | (simp; omega)) _ | refine old_alloc ?_ _ | refine old_trans ?_ (by assumption)))⟩
    simp [results, Try.results59, go_sem, d0, d1, f0, f1]
  have t1 : decide (d ≤ c) = false := by simpa using c1
  have t2 : Hid (decide (c < d) = true) := by show _ = _; simp; omega
  obtain ⟨q0, q1, -, -, -⟩ := G1
  have L0 := L1
  obtain ⟨e0, e1, e2, e3, -⟩ := L0
  have M0 := M1
  obtain ⟨h0, h1, h2, h3, -⟩ := M0
  go_wp2_with fail
  refine (P2.out _).mono ?_
  rintro e w4 ⟨rfl, hb4⟩
  clear q0 q1 e0 e1 e2 e3 h0 h1 h2 h3
  replace L1 := L1.later hb4
  replace M1 := M1.later hb4
  replace R1 := R1.later hb4
  replace R2 := R2.later hb4
  cases p2
  · obtain ⟨d0, d1, d2, d3, d4⟩ := R1
    obtain ⟨f0, f1, f2, f3, f4⟩ := R2
    go_wp2
    refine bodyPost_ret (v := .tuple #[.agg #[.int .i64 0, .int .i64 0], .agg #[.int .i64 0, .int .i64 0], .bool false]) ?_ rfl ⟨V0.out (by rw [hr.out, t2.out]; rfl), (by repeat (first | exact Below.refl _ _ | refine Below.drew ?_ | refine Below.setCell ?_ (by first | (simp; done) | omega | (simp; omega)) _ | refine old_alloc ?_ _ | refine old_trans ?_ (by assumption)))⟩
    simp [results, Try.results59, go_sem, d0, d1, f0, f1]
  have L0 := L1
  obtain ⟨e0, e1, e2, e3, -⟩ := L0
  have M0 := M1
  obtain ⟨h0, h1, h2, h3, -⟩ := M0
  go_wp2_with fail
  refine (P3.out _).mono ?_
  rintro e w5 ⟨rfl, hb5⟩
  clear e0 e1 e2 e3 h0 h1 h2 h3
  replace L1 := L1.later hb5
  replace M1 := M1.later hb5
  replace R1 := R1.later hb5
  replace R2 := R2.later hb5
  cases p3
  · obtain ⟨d0, d1, d2, d3, d4⟩ := R1
    obtain ⟨f0, f1, f2, f3, f4⟩ := R2
    go_wp2
    refine bodyPost_ret (v := .tuple #[.agg #[.int .i64 0, .int .i64 0], .agg #[.int .i64 0, .int .i64 0], .bool false]) ?_ rfl ⟨V0.out (by rw [hr.out, t2.out]; rfl), (by repeat (first | exact Below.refl _ _ | refine Below.drew ?_ | refine Below.setCell ?_ (by first | (simp; done) | omega | (simp; omega)) _ | refine old_alloc ?_ _ | refine old_trans ?_ (by assumption)))⟩
    simp [results, Try.results59, go_sem, d0, d1, f0, f1]
  obtain ⟨e0, e1, e2, e3, e4⟩ := L1
  obtain ⟨h0, h1, h2, h3, h4⟩ := M1
  obtain ⟨d0, d1, d2, d3, d4⟩ := R1
  obtain ⟨f0, f1, f2, f3, f4⟩ := R2
  by_cases c2 : gb < ga
  · have t3 : decide (gb < ga) = true := by simpa using c2
    have c3 : Hid (gb < ga) := c2
    go_wp2_with fail
    go_region_held3 (fun w' => w'.cell? ⟨w1.heap.size, 1, none⟩ = some (.int .i64 a) ∧ w'.cell? ⟨w1.heap.size, 1 + 1, none⟩ = some (.int .i64 c) ∧ w'.cell? ⟨w2.heap.size, 1, none⟩ = some (.int .i64 d) ∧ w'.cell? ⟨w2.heap.size, 1 + 1, none⟩ = some (.int .i64 b)) (go_keep) (fail)
    all_goals
      go_wp2
      refine bodyPost_ret (v := .tuple #[.agg #[.int .i64 d, .int .i64 b], .agg #[.int .i64 a, .int .i64 c], .bool true]) ?_ rfl ⟨V1.out (by rw [hr.out, t2.out]; rfl) c3.out, (by repeat (first | exact Below.refl _ _ | refine Below.drew ?_ | refine Below.setCell ?_ (by first | (simp; done) | omega | (simp; omega)) _ | refine old_alloc ?_ _ | refine old_trans ?_ (by assumption)))⟩
      simp [results, Try.results59, go_sem, d0, d1, f0, f1]
  · have t3 : decide (gb < ga) = false := by simpa using c2
    have c3 : Hid (¬ gb < ga) := c2
    go_wp2_with fail
    go_region_held3 (fun w' => w'.cell? ⟨w1.heap.size, 1, none⟩ = some (.int .i64 a) ∧ w'.cell? ⟨w1.heap.size, 1 + 1, none⟩ = some (.int .i64 c) ∧ w'.cell? ⟨w2.heap.size, 1, none⟩ = some (.int .i64 d) ∧ w'.cell? ⟨w2.heap.size, 1 + 1, none⟩ = some (.int .i64 b)) (go_keep) (fail)
    all_goals
      go_wp2
      refine bodyPost_ret (v := .tuple #[.agg #[.int .i64 a, .int .i64 c], .agg #[.int .i64 d, .int .i64 b], .bool true]) ?_ rfl ⟨V2.out (by rw [hr.out, t2.out]; rfl) c3.out, (by repeat (first | exact Below.refl _ _ | refine Below.drew ?_ | refine Below.setCell ?_ (by first | (simp; done) | omega | (simp; omega)) _ | refine old_alloc ?_ _ | refine old_trans ?_ (by assumption)))⟩
      simp [results, Try.results59, go_sem, d0, d1, f0, f1]
end Go.Proofs.Ytpnfkigeagbhpaa

/- PairCut of the specification, at all pairs: the same closed form; nothing that was there is written. -/
namespace Go.Proofs.Ytpnfkigeagbhpaa
open Go.RowKit

set_option maxRecDepth 100000 in
set_option maxHeartbeats 4000000 in
theorem sPairCut (wd a b c d : Int) (l1 : -9223372036854775808 ≤ a ∧ a ≤ 9223372036854775807) (l2 : -9223372036854775808 ≤ b ∧ b ≤ 9223372036854775807) (l3 : -9223372036854775808 ≤ c ∧ c ≤ 9223372036854775807) (l4 : -9223372036854775808 ≤ d ∧ d ≤ 9223372036854775807) (w : World) :
    Calls Try.prog 60 #[.int .i64 wd, .agg #[.int .i64 a, .int .i64 b], .agg #[.int .i64 c, .int .i64 d]] w fun e w' => e = .returned (cutV wd a b c d) ∧ Below w.heap.size w w' := by
  have H1 := hd (sPGapB a c l1.1 l1.2 l3.1 l3.2)
  have H2 := hd (sPGapB d b l4.1 l4.2 l2.1 l2.2)
  have P1 := hd (sPairOk wd a b)
  have P2 := hd (sPairOk wd a c)
  have P3 := hd (sPairOk wd d b)
  have hr : Hid (cutB wd a b c d = (pokB wd a b && (decide (c < d) && (pokB wd a c && pokB wd d b)))) := rfl
  have V0 : Hid (cutB wd a b c d = false → Ending.returned (.tuple #[.agg #[.int .i64 0, .int .i64 0], .agg #[.int .i64 0, .int .i64 0], .bool false]) = .returned (cutV wd a b c d)) := cutV_no
  have V1 : Hid (cutB wd a b c d = true → gapI d b < gapI a c → Ending.returned (.tuple #[.agg #[.int .i64 d, .int .i64 b], .agg #[.int .i64 a, .int .i64 c], .bool true]) = .returned (cutV wd a b c d)) := cutV_yes1
  have V2 : Hid (cutB wd a b c d = true → ¬ gapI d b < gapI a c → Ending.returned (.tuple #[.agg #[.int .i64 a, .int .i64 c], .agg #[.int .i64 d, .int .i64 b], .bool true]) = .returned (cutV wd a b c d)) := cutV_yes2
  obtain ⟨g1, g2⟩ := gapI_bd a c l1.1 l3.2
  obtain ⟨g3, g4⟩ := gapI_bd d b l4.1 l2.2
  generalize gapI a c = ga at *
  generalize gapI d b = gb at *
  generalize cutV wd a b c d = V at *
  generalize cutB wd a b c d = r at *
  generalize pokB wd a b = p1 at *
  generalize pokB wd a c = p2 at *
  generalize pokB wd d b = p3 at *
  clear l1 l2 l3 l4
  go_enter Try.func60, Try.ntmps60
  go_wp2_with fail
  refine (P1.out _).mono ?_
  rintro e w1 ⟨rfl, hb1⟩
  have A1 := ((((((Cel2.made w _ rfl (.int .i64 a) (.int .i64 b) 42).alloc _).alloc _).alloc _).alloc _).alloc _).later hb1
  have G1 := (((((Cel2.made _ (w.heap.size + 1) (by simp) (.int .i64 c) (.int .i64 d) 42).alloc _).alloc _).alloc _).alloc _).later hb1
  have R1 := ((((Cel2.made _ (w.heap.size + 1 + 1) (by simp) (.int .i64 0) (.int .i64 0) 42).alloc _).alloc _).alloc _).later hb1
  have R2 := (((Cel2.made _ (w.heap.size + 1 + 1 + 1) (by simp) (.int .i64 0) (.int .i64 0) 42).alloc _).alloc _).later hb1
  have X1 := ((Cel2.made _ (w.heap.size + 1 + 1 + 1 + 1) (by simp) (.int .i64 a) (.int .i64 c) 42).alloc _).later hb1
  have Y1 := (Cel2.made _ (w.heap.size + 1 + 1 + 1 + 1 + 1) (by simp) (.int .i64 d) (.int .i64 b) 42).later hb1
  have n02 : w.heap.size ≠ w.heap.size + 1 + 1 := by omega
  have n03 : w.heap.size ≠ w.heap.size + 1 + 1 + 1 := by omega
  have n04 : w.heap.size ≠ w.heap.size + 1 + 1 + 1 + 1 := by omega
  have n05 : w.heap.size ≠ w.heap.size + 1 + 1 + 1 + 1 + 1 := by omega
  have n13 : w.heap.size + 1 ≠ w.heap.size + 1 + 1 + 1 := by omega
  have n14 : w.heap.size + 1 ≠ w.heap.size + 1 + 1 + 1 + 1 := by omega
  have n15 : w.heap.size + 1 ≠ w.heap.size + 1 + 1 + 1 + 1 + 1 := by omega
  have n20 : w.heap.size + 1 + 1 ≠ w.heap.size := by omega
  have n24 : w.heap.size + 1 + 1 ≠ w.heap.size + 1 + 1 + 1 + 1 := by omega
  have n25 : w.heap.size + 1 + 1 ≠ w.heap.size + 1 + 1 + 1 + 1 + 1 := by omega
  have n30 : w.heap.size + 1 + 1 + 1 ≠ w.heap.size := by omega
  have n31 : w.heap.size + 1 + 1 + 1 ≠ w.heap.size + 1 := by omega
  have n35 : w.heap.size + 1 + 1 + 1 ≠ w.heap.size + 1 + 1 + 1 + 1 + 1 := by omega
  have n40 : w.heap.size + 1 + 1 + 1 + 1 ≠ w.heap.size := by omega
  have n41 : w.heap.size + 1 + 1 + 1 + 1 ≠ w.heap.size + 1 := by omega
  have n42 : w.heap.size + 1 + 1 + 1 + 1 ≠ w.heap.size + 1 + 1 := by omega
  have n50 : w.heap.size + 1 + 1 + 1 + 1 + 1 ≠ w.heap.size := by omega
  have n51 : w.heap.size + 1 + 1 + 1 + 1 + 1 ≠ w.heap.size + 1 := by omega
  have n52 : w.heap.size + 1 + 1 + 1 + 1 + 1 ≠ w.heap.size + 1 + 1 := by omega
  have n53 : w.heap.size + 1 + 1 + 1 + 1 + 1 ≠ w.heap.size + 1 + 1 + 1 := by omega
  cases p1
  · obtain ⟨d0, d1, d2, d3, d4⟩ := R1
    obtain ⟨f0, f1, f2, f3, f4⟩ := R2
    go_wp2
    refine bodyPost_ret (v := .tuple #[.agg #[.int .i64 0, .int .i64 0], .agg #[.int .i64 0, .int .i64 0], .bool false]) ?_ rfl ⟨V0.out (by rw [hr.out]; rfl), (by repeat (first | exact Below.refl _ _ | refine Below.drew ?_ | refine Below.setCell ?_ (by first | (simp; done) | omega | (simp; omega)) _ | refine old_alloc ?_ _ | refine old_trans ?_ (by assumption)))⟩
    simp [results, Try.results60, go_sem, d0, d1, f0, f1]
  by_cases c1 : d ≤ c
  · have t1 : decide (d ≤ c) = true := by simpa using c1
    have t2 : Hid (decide (c < d) = false) := by show _ = _; simp; omega
    obtain ⟨q0, q1, -, -, -⟩ := G1
    obtain ⟨d0, d1, d2, d3, d4⟩ := R1
    obtain ⟨f0, f1, f2, f3, f4⟩ := R2
    go_wp2
    refine bodyPost_ret (v := .tuple #[.agg #[.int .i64 0, .int .i64 0], .agg #[.int .i64 0, .int .i64 0], .bool false]) ?_ rfl ⟨V0.out (by rw [hr.out, t2.out]; rfl), (by repeat (first | exact Below.refl _ _ | refine Below.drew ?_ | refine Below.setCell ?_ (by first | (simp; done) | omega | (simp; omega)) _ | refine old_alloc ?_ _ | refine old_trans ?_ (by assumption)))⟩
    simp [results, Try.results60, go_sem, d0, d1, f0, f1]
  have t1 : decide (d ≤ c) = false := by simpa using c1
  have t2 : Hid (decide (c < d) = true) := by show _ = _; simp; omega
  obtain ⟨q0, q1, -, -, -⟩ := G1
  have L0 := X1
  obtain ⟨e0, e1, -, -, -⟩ := L0
  have M0 := Y1
  obtain ⟨h0, h1, -, -, -⟩ := M0
  go_wp2_with fail
  refine (P2.out _).mono ?_
  rintro e w4 ⟨rfl, hb4⟩
  clear q0 q1 e0 e1 h0 h1
  replace X1 := X1.later hb4
  replace Y1 := Y1.later hb4
  replace R1 := R1.later hb4
  replace R2 := R2.later hb4
  cases p2
  · obtain ⟨d0, d1, d2, d3, d4⟩ := R1
    obtain ⟨f0, f1, f2, f3, f4⟩ := R2
    go_wp2
    refine bodyPost_ret (v := .tuple #[.agg #[.int .i64 0, .int .i64 0], .agg #[.int .i64 0, .int .i64 0], .bool false]) ?_ rfl ⟨V0.out (by rw [hr.out, t2.out]; rfl), (by repeat (first | exact Below.refl _ _ | refine Below.drew ?_ | refine Below.setCell ?_ (by first | (simp; done) | omega | (simp; omega)) _ | refine old_alloc ?_ _ | refine old_trans ?_ (by assumption)))⟩
    simp [results, Try.results60, go_sem, d0, d1, f0, f1]
  have L0 := X1
  obtain ⟨e0, e1, -, -, -⟩ := L0
  have M0 := Y1
  obtain ⟨h0, h1, -, -, -⟩ := M0
  go_wp2_with fail
  refine (P3.out _).mono ?_
  rintro e w5 ⟨rfl, hb5⟩
  clear e0 e1 h0 h1
  replace X1 := X1.later hb5
  replace Y1 := Y1.later hb5
  replace R1 := R1.later hb5
  replace R2 := R2.later hb5
  cases p3
  · obtain ⟨d0, d1, d2, d3, d4⟩ := R1
    obtain ⟨f0, f1, f2, f3, f4⟩ := R2
    go_wp2
    refine bodyPost_ret (v := .tuple #[.agg #[.int .i64 0, .int .i64 0], .agg #[.int .i64 0, .int .i64 0], .bool false]) ?_ rfl ⟨V0.out (by rw [hr.out, t2.out]; rfl), (by repeat (first | exact Below.refl _ _ | refine Below.drew ?_ | refine Below.setCell ?_ (by first | (simp; done) | omega | (simp; omega)) _ | refine old_alloc ?_ _ | refine old_trans ?_ (by assumption)))⟩
    simp [results, Try.results60, go_sem, d0, d1, f0, f1]
  have L0 := X1
  obtain ⟨e0, e1, -, -, -⟩ := L0
  have M0 := Y1
  obtain ⟨h0, h1, -, -, -⟩ := M0
  go_wp2_with fail
  go_region_with (first | (go_at_call_of 82 (Value.agg #[.int .i64 d, .int .i64 b]); refine (H2.out _).mono ?_; rintro e w6 ⟨rfl, hb6⟩; have X1 := (by first | exact X1.later hb6 | exact X1.drew.later hb6 : Cel2 w6 _ _ _); have Y1 := (by first | exact Y1.later hb6 | exact Y1.drew.later hb6 : Cel2 w6 _ _ _); have R1 := (by first | exact R1.later hb6 | exact R1.drew.later hb6 : Cel2 w6 _ _ _); have R2 := (by first | exact R2.later hb6 | exact R2.drew.later hb6 : Cel2 w6 _ _ _); have e0 := X1.1; have e1 := X1.2.1; have h0 := Y1.1; have h1 := Y1.2.1) | (go_at_call_of 82 (Value.agg #[.int .i64 a, .int .i64 c]); refine (H1.out _).mono ?_; rintro e w6 ⟨rfl, hb6⟩; have X1 := (by first | exact X1.later hb6 | exact X1.drew.later hb6 : Cel2 w6 _ _ _); have Y1 := (by first | exact Y1.later hb6 | exact Y1.drew.later hb6 : Cel2 w6 _ _ _); have R1 := (by first | exact R1.later hb6 | exact R1.drew.later hb6 : Cel2 w6 _ _ _); have R2 := (by first | exact R2.later hb6 | exact R2.drew.later hb6 : Cel2 w6 _ _ _); have e0 := X1.1; have e1 := X1.2.1; have h0 := Y1.1; have h1 := Y1.2.1))
  all_goals
    clear e0 e1 h0 h1
    obtain ⟨e0, e1, -, -, -⟩ := X1
    obtain ⟨h0, h1, -, -, -⟩ := Y1
    obtain ⟨d0, d1, d2, d3, d4⟩ := R1
    obtain ⟨f0, f1, f2, f3, f4⟩ := R2
    by_cases c2 : gb < ga
    · have t3 : decide (gb < ga) = true := by simpa using c2
      have c3 : Hid (gb < ga) := c2
      go_wp2_with fail
      go_region_held3 (fun w' => w'.cell? ⟨w.heap.size + 1 + 1 + 1 + 1, 0, none⟩ = some (.int .i64 a) ∧ w'.cell? ⟨w.heap.size + 1 + 1 + 1 + 1, 1, none⟩ = some (.int .i64 c) ∧ w'.cell? ⟨w.heap.size + 1 + 1 + 1 + 1 + 1, 0, none⟩ = some (.int .i64 d) ∧ w'.cell? ⟨w.heap.size + 1 + 1 + 1 + 1 + 1, 1, none⟩ = some (.int .i64 b)) (go_keep) (fail)
      all_goals
        go_wp2
        refine bodyPost_ret (v := .tuple #[.agg #[.int .i64 d, .int .i64 b], .agg #[.int .i64 a, .int .i64 c], .bool true]) ?_ rfl ⟨V1.out (by rw [hr.out, t2.out]; rfl) c3.out, (by repeat (first | exact Below.refl _ _ | refine Below.drew ?_ | refine Below.setCell ?_ (by first | (simp; done) | omega | (simp; omega)) _ | refine old_alloc ?_ _ | refine old_trans ?_ (by assumption)))⟩
        simp [results, Try.results60, go_sem, d0, d1, f0, f1]
    · have t3 : decide (gb < ga) = false := by simpa using c2
      have c3 : Hid (¬ gb < ga) := c2
      go_wp2_with fail
      go_region_held3 (fun w' => w'.cell? ⟨w.heap.size + 1 + 1 + 1 + 1, 0, none⟩ = some (.int .i64 a) ∧ w'.cell? ⟨w.heap.size + 1 + 1 + 1 + 1, 1, none⟩ = some (.int .i64 c) ∧ w'.cell? ⟨w.heap.size + 1 + 1 + 1 + 1 + 1, 0, none⟩ = some (.int .i64 d) ∧ w'.cell? ⟨w.heap.size + 1 + 1 + 1 + 1 + 1, 1, none⟩ = some (.int .i64 b)) (go_keep) (fail)
      all_goals
        go_wp2
        refine bodyPost_ret (v := .tuple #[.agg #[.int .i64 a, .int .i64 c], .agg #[.int .i64 d, .int .i64 b], .bool true]) ?_ rfl ⟨V2.out (by rw [hr.out, t2.out]; rfl) c3.out, (by repeat (first | exact Below.refl _ _ | refine Below.drew ?_ | refine Below.setCell ?_ (by first | (simp; done) | omega | (simp; omega)) _ | refine old_alloc ?_ _ | refine old_trans ?_ (by assumption)))⟩
        simp [results, Try.results60, go_sem, d0, d1, f0, f1]
end Go.Proofs.Ytpnfkigeagbhpaa
