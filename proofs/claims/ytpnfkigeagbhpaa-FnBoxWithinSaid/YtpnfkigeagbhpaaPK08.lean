/- PairMeet and PairHull of the program and of the specification, at all pairs; nothing that was there is written. -/
import Derived.Test.YtpnfkigeagbhpaaPK07
import Derived.Test.YtpnfkigeagbhpaaPK01
import Derived.Deep.RegionHeld3
import Derived.Test.YtpnfkigeagbhpaaPK04
namespace Go.Proofs.Ytpnfkigeagbhpaa
open Go.RowKit

/-- two cells of a block of our own, that may be written -/
def Cel2 (w : World) (b : Nat) (x y : Value) : Prop := w.cell? ⟨b, 0, none⟩ = some x ∧ w.cell? ⟨b, 1, none⟩ = some y ∧ w.frozen? ⟨b, 0, none⟩ = false ∧ w.frozen? ⟨b, 1, none⟩ = false ∧ b < w.heap.size
theorem Cel2.later {w w1 : World} {b : Nat} {x y : Value} (h : Cel2 w b x y) (hb : Below w.heap.size w w1) : Cel2 w1 b x y := by
  obtain ⟨h1, h2, h3, h4, h5⟩ := h
  exact ⟨(hb.cell (p := ⟨b, 0, none⟩) h5).trans h1, (hb.cell (p := ⟨b, 1, none⟩) h5).trans h2, (hb.frozen (p := ⟨b, 0, none⟩) h5).trans h3, (hb.frozen (p := ⟨b, 1, none⟩) h5).trans h4, Nat.lt_of_lt_of_le h5 hb.size⟩
theorem Cel2.alloc {w : World} {b : Nat} {x y : Value} (h : Cel2 w b x y) (o : Obj) : Cel2 (w.alloc o) b x y := h.later ((Below.refl _ _).alloc (Nat.le_refl _) o)
theorem Cel2.drew {w : World} {b : Nat} {x y : Value} (h : Cel2 w b x y) : Cel2 w.drew b x y := h
theorem Cel2.made (w : World) (b : Nat) (hb : b = w.heap.size) (x y : Value) (t : TypeId) : Cel2 (w.alloc (.cells #[x, y] t)) b x y := by subst hb; exact ⟨by simp, by simp, by simp, by simp, by simp⟩

theorem lt3 {w w1 : World} {o1 o2 o3 : Obj} (hb : Below (((w.alloc o1).alloc o2).alloc o3).heap.size (((w.alloc o1).alloc o2).alloc o3) w1) : w.heap.size < w1.heap.size ∧ w.heap.size + 1 < w1.heap.size ∧ w.heap.size + 1 + 1 < w1.heap.size := by
  have := hb.size
  simp at this
  omega
theorem lts {a b c : Nat} {w w1 : World} {o : Obj} (hb : Below (w.alloc o).heap.size (w.alloc o) w1) (h : a < w.heap.size ∧ b < w.heap.size ∧ c < w.heap.size) : a < w1.heap.size ∧ b < w1.heap.size ∧ c < w1.heap.size ∧ w.heap.size < w1.heap.size := by
  have := hb.size
  simp at this
  omega
theorem ltn {a b c d : Nat} {w w1 : World} (hb : Below w.heap.size w w1) (h : a < w.heap.size ∧ b < w.heap.size ∧ c < w.heap.size ∧ d < w.heap.size) : a < w1.heap.size ∧ b < w1.heap.size ∧ c < w1.heap.size ∧ d < w1.heap.size := by
  have := hb.size
  omega

def meetB (wd a b c d : Int) : Bool := pokB wd a b && (pokB wd c d && decide (max a c ≤ min b d))
def pairV (r : Bool) (x y : Int) : Value := .tuple #[if r then .agg #[.int .i64 x, .int .i64 y] else .agg #[.int .i64 0, .int .i64 0], .bool r]

theorem pairV_no (x y : Int) {r : Bool} (h : r = false) : Ending.returned (.tuple #[.agg #[.int .i64 0, .int .i64 0], .bool false]) = .returned (pairV r x y) := by rw [h]; rfl
theorem pairV_yes (x y : Int) {r : Bool} (h : r = true) : Ending.returned (.tuple #[.agg #[.int .i64 x, .int .i64 y], .bool true]) = .returned (pairV r x y) := by rw [h]; rfl

set_option maxHeartbeats 1000000 in
theorem iPairMeet (wd a b c d : Int) (w : World) :
    Calls Try.prog 42 #[.int .i64 wd, .agg #[.int .i64 a, .int .i64 b], .agg #[.int .i64 c, .int .i64 d]] w fun e w' => e = .returned (pairV (meetB wd a b c d) (max a c) (min b d)) ∧ Below w.heap.size w w' := by
  have H0 := hd (iInner a b c d)
  have H1 := hd (iPairOk wd a b)
  have H2 := hd (iPairOk wd c d)
  have hr : Hid (meetB wd a b c d = (pokB wd a b && (pokB wd c d && decide (max a c ≤ min b d)))) := rfl
  generalize max a c = x at *
  generalize min b d = y at *
  generalize pokB wd a b = p1 at *
  generalize pokB wd c d = p2 at *
  generalize meetB wd a b c d = r at *
  go_enter Try.func42, Try.ntmps42
  go_wp2_with fail
  refine (H0.out _).mono ?_
  rintro e w1 ⟨rfl, hb1⟩
  obtain ⟨hc1, hf1⟩ := bcell hb1
  obtain ⟨u1, u2, u3⟩ := lt3 hb1
  have R := (Cel2.made _ _ (by simp) _ _ _ : Cel2 _ (w.heap.size + 1 + 1) (.int .i64 0) (.int .i64 0)).later hb1
  go_wp2_with fail
  refine (H1.out _).mono ?_
  rintro e w2 ⟨rfl, hb2⟩
  obtain ⟨hc2, hf2⟩ := bcell hb2
  obtain ⟨v1, v2, v3, v4⟩ := lts hb2 ⟨u1, u2, u3⟩
  replace R := (R.alloc _).later hb2
  cases p1
  · obtain ⟨d0, d1, d2, d3, d4⟩ := R
    go_wp2
    exact bodyPost_ret (v := .tuple #[.agg #[.int .i64 0, .int .i64 0], .bool false]) (by simp [results, Try.results42, go_sem, d0, d1]) rfl ⟨pairV_no _ _ (by rw [hr.out]; rfl), (by repeat (first | exact Below.refl _ _ | refine Below.drew ?_ | refine Below.setCell ?_ (by first | (simp; done) | omega | (simp; omega)) _ | refine old_alloc ?_ _ | refine old_trans ?_ (by assumption)))⟩
  go_wp2_with fail
  refine (H2.out _).mono ?_
  rintro e w3 ⟨rfl, hb3⟩
  obtain ⟨hc3, hf3⟩ := bcell hb3
  obtain ⟨t1, t2, t3, t4⟩ := ltn hb3 ⟨v1, v2, v3, v4⟩
  replace R := R.later hb3
  cases p2
  · obtain ⟨d0, d1, d2, d3, d4⟩ := R
    go_wp2
    exact bodyPost_ret (v := .tuple #[.agg #[.int .i64 0, .int .i64 0], .bool false]) (by simp [results, Try.results42, go_sem, d0, d1]) rfl ⟨pairV_no _ _ (by rw [hr.out]; rfl), (by repeat (first | exact Below.refl _ _ | refine Below.drew ?_ | refine Below.setCell ?_ (by first | (simp; done) | omega | (simp; omega)) _ | refine old_alloc ?_ _ | refine old_trans ?_ (by assumption)))⟩
  by_cases q : y < x
  · have q1 : Hid (decide (x ≤ y) = false) := by show _ = _; simp; omega
    obtain ⟨d0, d1, d2, d3, d4⟩ := R
    go_wp2
    exact bodyPost_ret (v := .tuple #[.agg #[.int .i64 0, .int .i64 0], .bool false]) (by simp [results, Try.results42, go_sem, d0, d1]) rfl ⟨pairV_no _ _ (by rw [hr.out, q1.out]; rfl), (by repeat (first | exact Below.refl _ _ | refine Below.drew ?_ | refine Below.setCell ?_ (by first | (simp; done) | omega | (simp; omega)) _ | refine old_alloc ?_ _ | refine old_trans ?_ (by assumption)))⟩
  · have q1 : Hid (decide (x ≤ y) = true) := by show _ = _; simp; omega
    obtain ⟨d0, d1, d2, d3, d4⟩ := R
    go_wp2
    exact bodyPost_ret (v := .tuple #[.agg #[.int .i64 x, .int .i64 y], .bool true]) (by simp [results, Try.results42, go_sem, d0, d1]) rfl ⟨pairV_yes _ _ (by rw [hr.out, q1.out]; rfl), (by repeat (first | exact Below.refl _ _ | refine Below.drew ?_ | refine Below.setCell ?_ (by first | (simp; done) | omega | (simp; omega)) _ | refine old_alloc ?_ _ | refine old_trans ?_ (by assumption)))⟩

set_option maxHeartbeats 1000000 in
theorem sPairMeet (wd a b c d : Int) (w : World) :
    Calls Try.prog 43 #[.int .i64 wd, .agg #[.int .i64 a, .int .i64 b], .agg #[.int .i64 c, .int .i64 d]] w fun e w' => e = .returned (pairV (meetB wd a b c d) (max a c) (min b d)) ∧ Below w.heap.size w w' := by
  have H0 := hd (sMax a c)
  have H3 := hd (sMin b d)
  have H1 := hd (sPairOk wd a b)
  have H2 := hd (sPairOk wd c d)
  have hr : Hid (meetB wd a b c d = (pokB wd a b && (pokB wd c d && decide (max a c ≤ min b d)))) := rfl
  generalize max a c = x at *
  generalize min b d = y at *
  generalize pokB wd a b = p1 at *
  generalize pokB wd c d = p2 at *
  generalize meetB wd a b c d = r at *
  go_enter Try.func43, Try.ntmps43
  go_wp2_with fail
  go_region_held3 (fun w' => w'.cell? ⟨w.heap.size, 0, none⟩ = some (.int .i64 a) ∧ w'.cell? ⟨w.heap.size, 1, none⟩ = some (.int .i64 b) ∧ w'.cell? ⟨w.heap.size + 1, 0, none⟩ = some (.int .i64 c) ∧ w'.cell? ⟨w.heap.size + 1, 1, none⟩ = some (.int .i64 d)) (go_keep) (first | (go_at_call 75; refine (H0.out _).mono ?_; rintro e w1 ⟨rfl, rfl⟩) | (go_at_call 76; refine (H3.out _).mono ?_; rintro e w1 ⟨rfl, rfl⟩))
  all_goals
    go_wp2_with fail
    refine (H1.out _).mono ?_
    rintro e w2 ⟨rfl, hb2⟩
    obtain ⟨hc2, hf2⟩ := bcell hb2
    obtain ⟨v1, v2, v3, v4⟩ : w.heap.size < w2.heap.size ∧ w.heap.size + 1 < w2.heap.size ∧ w.heap.size + 1 + 1 < w2.heap.size ∧ w.heap.size + 1 + 1 + 1 < w2.heap.size := by have := hb2.size; simp at this; omega
    have R0 : Cel2 ((((w.alloc (.cells #[.int .i64 a, .int .i64 b] 42)).alloc (.cells #[.int .i64 c, .int .i64 d] 42)).alloc (.cells #[.int .i64 0, .int .i64 0] 42)).alloc (.cells #[.int .i64 x, .int .i64 y] 42)) (w.heap.size + 1 + 1) (.int .i64 0) (.int .i64 0) := (Cel2.made _ _ (by simp) _ _ _).alloc _
    have R : Cel2 w2 (w.heap.size + 1 + 1) (.int .i64 0) (.int .i64 0) := by first | exact R0.later hb2 | exact R0.drew.later hb2
    clear R0
    cases p1
    · obtain ⟨d0, d1, d2, d3, d4⟩ := R
      go_wp2
      exact bodyPost_ret (v := .tuple #[.agg #[.int .i64 0, .int .i64 0], .bool false]) (by simp [results, Try.results43, go_sem, d0, d1]) rfl ⟨pairV_no _ _ (by rw [hr.out]; rfl), (by repeat (first | exact Below.refl _ _ | refine Below.drew ?_ | refine Below.setCell ?_ (by first | (simp; done) | omega | (simp; omega)) _ | refine old_alloc ?_ _ | refine old_trans ?_ (by assumption)))⟩
    go_wp2_with fail
    refine (H2.out _).mono ?_
    rintro e w3 ⟨rfl, hb3⟩
    obtain ⟨hc3, hf3⟩ := bcell hb3
    obtain ⟨t1, t2, t3, t4⟩ := ltn hb3 ⟨v1, v2, v3, v4⟩
    replace R := R.later hb3
    cases p2
    · obtain ⟨d0, d1, d2, d3, d4⟩ := R
      go_wp2
      exact bodyPost_ret (v := .tuple #[.agg #[.int .i64 0, .int .i64 0], .bool false]) (by simp [results, Try.results43, go_sem, d0, d1]) rfl ⟨pairV_no _ _ (by rw [hr.out]; rfl), (by repeat (first | exact Below.refl _ _ | refine Below.drew ?_ | refine Below.setCell ?_ (by first | (simp; done) | omega | (simp; omega)) _ | refine old_alloc ?_ _ | refine old_trans ?_ (by assumption)))⟩
    by_cases q : y < x
    · have q1 : Hid (decide (x ≤ y) = false) := by show _ = _; simp; omega
      obtain ⟨d0, d1, d2, d3, d4⟩ := R
      go_wp2
      exact bodyPost_ret (v := .tuple #[.agg #[.int .i64 0, .int .i64 0], .bool false]) (by simp [results, Try.results43, go_sem, d0, d1]) rfl ⟨pairV_no _ _ (by rw [hr.out, q1.out]; rfl), (by repeat (first | exact Below.refl _ _ | refine Below.drew ?_ | refine Below.setCell ?_ (by first | (simp; done) | omega | (simp; omega)) _ | refine old_alloc ?_ _ | refine old_trans ?_ (by assumption)))⟩
    · have q1 : Hid (decide (x ≤ y) = true) := by show _ = _; simp; omega
      obtain ⟨d0, d1, d2, d3, d4⟩ := R
      go_wp2
      exact bodyPost_ret (v := .tuple #[.agg #[.int .i64 x, .int .i64 y], .bool true]) (by simp [results, Try.results43, go_sem, d0, d1]) rfl ⟨pairV_yes _ _ (by rw [hr.out, q1.out]; rfl), (by repeat (first | exact Below.refl _ _ | refine Below.drew ?_ | refine Below.setCell ?_ (by first | (simp; done) | omega | (simp; omega)) _ | refine old_alloc ?_ _ | refine old_trans ?_ (by assumption)))⟩
end Go.Proofs.Ytpnfkigeagbhpaa

/- Steps and middles that leave the world as it was; counted and l3Gap; PairSplit of the program and of the specification. -/
namespace Go.Proofs.Ytpnfkigeagbhpaa
open Go.RowKit

theorem gapI_bd (lo hi : Int) (l1 : -9223372036854775808 ≤ lo) (k2 : hi ≤ 9223372036854775807) : 0 ≤ gapI lo hi ∧ gapI lo hi ≤ 18446744073709551615 := by unfold gapI; split <;> omega
set_option maxHeartbeats 800000 in
theorem iGapW (lo hi : Int) (l1 : -9223372036854775808 ≤ lo) (l2 : lo ≤ 9223372036854775807) (k1 : -9223372036854775808 ≤ hi) (k2 : hi ≤ 9223372036854775807) (w : World) :
    Calls Try.prog 77 #[.int .i64 lo, .int .i64 hi] w fun e w' => e = .returned (.int .u64 (gapI lo hi)) ∧ w' = w := by
  go_enter Try.func77, Try.ntmps77
  go_wp2
  all_goals
    go_ret
    refine ⟨ret_int ?_, rfl⟩
    try simp only [IntKind.wrap_u64]
    unfold gapI
    split <;> omega
set_option maxHeartbeats 800000 in
theorem sGapW (lo hi : Int) (l1 : -9223372036854775808 ≤ lo) (l2 : lo ≤ 9223372036854775807) (k1 : -9223372036854775808 ≤ hi) (k2 : hi ≤ 9223372036854775807) (w : World) :
    Calls Try.prog 84 #[.int .i64 lo, .int .i64 hi] w fun e w' => e = .returned (.int .u64 (gapI lo hi)) ∧ w' = w := by
  go_enter Try.func84, Try.ntmps84
  go_wp2
  all_goals
    go_ret
    refine ⟨ret_int ?_, rfl⟩
    try simp only [IntKind.wrap_u64]
    unfold gapI
    split <;> omega
set_option maxHeartbeats 800000 in
theorem iCounted (lo hi : Int) (l1 : -9223372036854775808 ≤ lo) (l2 : lo ≤ 9223372036854775807) (k1 : -9223372036854775808 ≤ hi) (k2 : hi ≤ 9223372036854775807) (w : World) :
    Calls Try.prog 46 #[.agg #[.int .i64 lo, .int .i64 hi]] w fun e w' => e = .returned (.agg #[.int .u64 (gapI lo hi), .int .i64 lo, .int .i64 hi]) ∧ Below w.heap.size w w' := by
  have H := hd (iGapW lo hi l1 l2 k1 k2)
  generalize gapI lo hi = g at *
  go_enter Try.func46, Try.ntmps46
  go_wp2_with fail
  go_region_held3 (fun w' => w'.cell? ⟨w.heap.size, 0, none⟩ = some (.int .i64 lo) ∧ w'.cell? ⟨w.heap.size, 1, none⟩ = some (.int .i64 hi)) (go_keep) (first | (go_at_call 77; refine (H.out _).mono ?_; rintro e w1 ⟨rfl, rfl⟩))
  all_goals
    go_wp2
    refine bodyPost_ret (v := .agg #[.int .u64 g, .int .i64 lo, .int .i64 hi]) ?_ rfl ⟨rfl, (by repeat (first | exact Below.refl _ _ | refine Below.drew ?_ | refine Below.setCell ?_ (by first | (simp; done) | omega | (simp; omega)) _ | refine old_alloc ?_ _ | refine old_trans ?_ (by assumption)))⟩
    simp [results, Try.results46, go_sem]
theorem fld_count (g lo hi : Int) (w : World) : (Instr.field 66 (.agg #[.int .u64 g, .int .i64 lo, .int .i64 hi]) 0).run Try.prog w = .ok (.agg #[.int .u64 g]) w := by kernel_rfl
theorem fld_steps (g : Int) (w : World) : (Instr.field 64 (.agg #[.int .u64 g]) 0).run Try.prog w = .ok (.int .u64 g) w := by kernel_rfl
end Go.Proofs.Ytpnfkigeagbhpaa

/- PairCut of the program and of the specification, at all pairs: one closed form for both; nothing that was there is written. -/
namespace Go.Proofs.Ytpnfkigeagbhpaa
open Go.RowKit

/-- three cells of a block of our own -/
def Cel3 (w : World) (b : Nat) (x y z : Value) : Prop := w.cell? ⟨b, 0, none⟩ = some x ∧ w.cell? ⟨b, 1, none⟩ = some y ∧ w.cell? ⟨b, 1 + 1, none⟩ = some z ∧ w.cell? ⟨b, 2, none⟩ = some z ∧ b < w.heap.size
theorem Cel3.later {w w1 : World} {b : Nat} {x y z : Value} (h : Cel3 w b x y z) (hb : Below w.heap.size w w1) : Cel3 w1 b x y z := by
  obtain ⟨h1, h2, h3, h4, h5⟩ := h
  exact ⟨(hb.cell (p := ⟨b, 0, none⟩) h5).trans h1, (hb.cell (p := ⟨b, 1, none⟩) h5).trans h2, (hb.cell (p := ⟨b, 1 + 1, none⟩) h5).trans h3, (hb.cell (p := ⟨b, 2, none⟩) h5).trans h4, Nat.lt_of_lt_of_le h5 hb.size⟩
theorem Cel3.alloc {w : World} {b : Nat} {x y z : Value} (h : Cel3 w b x y z) (o : Obj) : Cel3 (w.alloc o) b x y z := h.later ((Below.refl _ _).alloc (Nat.le_refl _) o)
theorem Cel3.made (w : World) (b : Nat) (hb : b = w.heap.size) (x y z : Value) (t : TypeId) : Cel3 (w.alloc (.cells #[x, y, z] t)) b x y z := by subst hb; exact ⟨by simp, by simp, by simp, by simp, by simp⟩

end Go.Proofs.Ytpnfkigeagbhpaa
