/- Spans: SpanOk and SpanAll of the program and of the specification, for every width at once; a law's own copy and comparison of spans; nothing that was there is written. -/
import Derived.Test.YtpjagplloljefaaGreatR3
import Derived.Test.YtpjagplloljefaaGreatCut
import Derived.BigQuiet
import Derived.Laws.StructEq
import Derived.Laws.Tables
import Derived.Laws.Cover2
import Derived.KernelRfl
namespace Go.Proofs.YtpjagplloljefaaGreat
open Go.RowKit
set_option linter.unusedVariables false
set_option maxRecDepth 100000

def isW (wd : Int) : Bool := decide (wd = 32 ∨ wd = 64)
def sokB (wd : Int) (b : Bool) (lo hi : Int) : Bool := if b then pokB wd lo hi else (isW wd && (lo == 0 && hi == 0))
def spanV (b : Bool) (lo hi : Int) : Value := .agg #[.bool b, .int .i64 lo, .int .i64 hi]

theorem eqBnd (a b c d : Int) (w : World) : (Op.equalIn 10000 74 (.agg #[.int .i64 a, .int .i64 b]) (.agg #[.int .i64 c, .int .i64 d])).run Tryz.prog w = .ok (a == c && b == d) w := by
  have u3 := Tryz.underlying3
  have a3 := Tryz.isAgg3
  have z3 := Tryz.sizeOf3
  rw [show (10000 : Nat) = 9999 + 1 from rfl, Op.equalIn]
  simp only [Sem.run_bind, run_underlying Tryz.underlying74, Result.andThen_ok]
  simp only [Std.Legacy.Range.forIn_eq_forIn_range', Std.Legacy.Range.size, Nat.sub_zero, Nat.add_sub_cancel, Nat.div_one, List.range'_succ, List.range'_zero, List.forIn_cons, List.forIn_nil]
  go_simp
  by_cases h1 : a = c <;> by_cases h2 : b = d <;> simp [h1, h2]
attribute [local go_sem] eqBnd

theorem spWidth (wd : Int) (w : World) :
    Calls Tryz.prog 59 #[.int .i64 wd] w fun e w' => e = .returned (.bool (isW wd)) ∧ w' = w := by
  unfold isW
  by_cases c1 : wd = 32
  · subst c1
    go_enter Tryz.func59, Tryz.ntmps59
    go_wp2
    go_ret
    exact ⟨rfl, rfl⟩
  by_cases c2 : wd = 64
  · subst c2
    go_enter Tryz.func59, Tryz.ntmps59
    go_wp2
    go_ret
    exact ⟨rfl, rfl⟩
  have d1 : (wd == 32) = false := by simpa using c1
  have d2 : (wd == 64) = false := by simpa using c2
  go_enter Tryz.func59, Tryz.ntmps59
  go_wp2
  go_ret
  exact ⟨ret_b (by simp [c1, c2]), rfl⟩

theorem toSpan (b : Bool) (lo hi : Int) (w : World) :
    Calls Tryz.prog 13 #[.agg #[.bool b, .int .i64 lo, .int .i64 hi]] w fun e w' => e = .returned (.agg #[.bool b, .int .i64 lo, .int .i64 hi]) ∧ Below w.heap.size w w' := by
  go_enter Tryz.func13, Tryz.ntmps13
  go_wp2
  refine bodyPost_ret (v := .agg #[.bool b, .int .i64 lo, .int .i64 hi]) ?_ rfl ⟨rfl, (by repeat (first | exact Below.refl _ _ | refine Below.drew ?_ | refine Below.setCell ?_ (by first | (simp; done) | omega | (simp; omega)) _ | refine old_alloc ?_ _ | refine old_trans ?_ (by assumption)))⟩
  simp [results, Tryz.results13, go_sem]
theorem eqSpan_same (b : Bool) (lo hi : Int) (w : World) :
    Calls Tryz.prog 15 #[.agg #[.bool b, .int .i64 lo, .int .i64 hi], .agg #[.bool b, .int .i64 lo, .int .i64 hi]] w fun e w' => e = .returned (.bool true) ∧ Below w.heap.size w w' := by
  cases b <;>
  · go_enter Tryz.func15, Tryz.ntmps15
    go_wp2
    go_ret
    exact ⟨rfl, (by repeat (first | exact Below.refl _ _ | refine Below.drew ?_ | refine old_alloc ?_ _ | refine old_trans ?_ (by assumption)))⟩

theorem iFormOf (wd : Int) (w : World) :
    Calls Tryz.prog 61 #[.int .i64 wd] w fun e w' => (∃ v, e = .returned (.tuple #[v, .bool (isW wd)])) ∧ Below w.heap.size w w' := by
  unfold isW
  by_cases c1 : wd = 32
  · subst c1; exact (formOf_32 w).mono fun e w' h => ⟨⟨_, h.1⟩, h.2⟩
  by_cases c2 : wd = 64
  · subst c2; exact (formOf_64 w).mono fun e w' h => ⟨⟨_, h.1⟩, h.2⟩
  rw [decide_eq_false (by simp [c1, c2])]
  exact (formOf_no wd w (by simp; omega) (by simp; omega)).mono fun e w' h => ⟨⟨_, h.1⟩, h.2⟩

set_option maxHeartbeats 1000000 in
theorem iSpanOk (wd : Int) (b : Bool) (lo hi : Int) (w : World) :
    Calls Tryz.prog 49 #[.int .i64 wd, .agg #[.bool b, .int .i64 lo, .int .i64 hi]] w fun e w' => e = .returned (.bool (sokB wd b lo hi)) ∧ Below w.heap.size w w' := by
  have c0 : (w.alloc (.cells #[.bool b, .int .i64 lo, .int .i64 hi] 24)).cell? ⟨w.heap.size, 0, none⟩ = some (.bool b) := by simp
  have c1 : (w.alloc (.cells #[.bool b, .int .i64 lo, .int .i64 hi] 24)).cell? ⟨w.heap.size, 1, none⟩ = some (.int .i64 lo) := by simp
  have c2 : (w.alloc (.cells #[.bool b, .int .i64 lo, .int .i64 hi] 24)).cell? ⟨w.heap.size, 2, none⟩ = some (.int .i64 hi) := by simp
  have H1 := hd (iPairOk wd lo hi)
  have H2 := hd (iFormOf wd)
  cases b
  · have hp : Hid (sokB wd false lo hi = (isW wd && (lo == 0 && hi == 0))) := rfl
    generalize isW wd = q at *
    go_enter Tryz.func49, Tryz.ntmps49
    go_wp2_with fail
    refine (H2.out _).mono ?_
    rintro e w1 ⟨⟨v, rfl⟩, hb1⟩
    replace c0 := cell_later hb1 c0
    replace c1 := cell_later hb1 c1
    replace c2 := cell_later hb1 c2
    cases q
    · go_wp2
      go_ret
      exact ⟨ret_b (by rw [hp.out]; rfl), (by repeat (first | exact Below.refl _ _ | refine Below.drew ?_ | refine old_alloc ?_ _ | refine old_trans ?_ (by assumption)))⟩
    go_wp2
    all_goals
      go_ret
      refine ⟨ret_b ?_, (by repeat (first | exact Below.refl _ _ | refine Below.drew ?_ | refine old_alloc ?_ _ | refine old_trans ?_ (by assumption)))⟩
      rw [hp.out]
      simp
  · have hp : Hid (sokB wd true lo hi = pokB wd lo hi) := rfl
    go_enter Tryz.func49, Tryz.ntmps49
    go_wp2_with fail
    refine (H1.out _).mono ?_
    rintro e w1 ⟨rfl, hb1⟩
    go_wp2
    go_ret
    exact ⟨ret_b (by rw [hp.out]), (by repeat (first | exact Below.refl _ _ | refine Below.drew ?_ | refine old_alloc ?_ _ | refine old_trans ?_ (by assumption)))⟩

theorem sPairL (b : Bool) (lo hi : Int) (w : World) :
    Calls Tryz.prog 43 #[.agg #[.bool b, .int .i64 lo, .int .i64 hi]] w fun e w' => e = .returned (.agg #[.int .i64 lo, .int .i64 hi]) ∧ Below w.heap.size w w' := by
  go_enter Tryz.func43, Tryz.ntmps43
  go_wp2
  refine bodyPost_ret (v := .agg #[.int .i64 lo, .int .i64 hi]) ?_ rfl ⟨rfl, (by repeat (first | exact Below.refl _ _ | refine Below.drew ?_ | refine Below.setCell ?_ (by first | (simp; done) | omega | (simp; omega)) _ | refine old_alloc ?_ _ | refine old_trans ?_ (by assumption)))⟩
  simp [results, Tryz.results43, go_sem]
theorem sOfL (lo hi : Int) (w : World) :
    Calls Tryz.prog 34 #[.int .i64 lo, .int .i64 hi] w fun e w' => e = .returned (.agg #[.bool true, .int .i64 lo, .int .i64 hi]) ∧ Below w.heap.size w w' := by
  go_enter Tryz.func34, Tryz.ntmps34
  go_wp2
  refine bodyPost_ret (v := .agg #[.bool true, .int .i64 lo, .int .i64 hi]) ?_ rfl ⟨rfl, (by repeat (first | exact Below.refl _ _ | refine Below.drew ?_ | refine Below.setCell ?_ (by first | (simp; done) | omega | (simp; omega)) _ | refine old_alloc ?_ _ | refine old_trans ?_ (by assumption)))⟩
  simp [results, Tryz.results34, go_sem]

set_option maxHeartbeats 1000000 in
theorem sSpanOk (wd : Int) (b : Bool) (lo hi : Int) (w : World) :
    Calls Tryz.prog 46 #[.int .i64 wd, .agg #[.bool b, .int .i64 lo, .int .i64 hi]] w fun e w' => e = .returned (.bool (sokB wd b lo hi)) ∧ Below w.heap.size w w' := by
  have c0 : (w.alloc (.cells #[.bool b, .int .i64 lo, .int .i64 hi] 24)).cell? ⟨w.heap.size, 0, none⟩ = some (.bool b) := by simp
  have c1 : (w.alloc (.cells #[.bool b, .int .i64 lo, .int .i64 hi] 24)).cell? ⟨w.heap.size, 1, none⟩ = some (.int .i64 lo) := by simp
  have c2 : (w.alloc (.cells #[.bool b, .int .i64 lo, .int .i64 hi] 24)).cell? ⟨w.heap.size, 2, none⟩ = some (.int .i64 hi) := by simp
  have H1 := hd (sPairOk wd lo hi)
  have H2 := hd (spWidth wd)
  cases b
  · have hp : Hid (sokB wd false lo hi = (isW wd && (lo == 0 && hi == 0))) := rfl
    generalize isW wd = q at *
    go_enter Tryz.func46, Tryz.ntmps46
    go_wp2_with fail
    refine (H2.out _).mono ?_
    rintro e w1 ⟨rfl, rfl⟩
    cases q
    · go_wp2
      go_ret
      exact ⟨ret_b (by rw [hp.out]; rfl), (by repeat (first | exact Below.refl _ _ | refine Below.drew ?_ | refine old_alloc ?_ _ | refine old_trans ?_ (by assumption)))⟩
    by_cases t1 : lo = 0
    · have t2 : (lo == 0) = true := by simpa using t1
      go_wp2
      all_goals
        go_ret
        refine ⟨ret_b ?_, (by repeat (first | exact Below.refl _ _ | refine Below.drew ?_ | refine old_alloc ?_ _ | refine old_trans ?_ (by assumption)))⟩
        rw [hp.out, t2]
        simp
    · have t2 : (lo == 0) = false := by simpa using t1
      go_wp2
      all_goals
        go_ret
        refine ⟨ret_b ?_, (by repeat (first | exact Below.refl _ _ | refine Below.drew ?_ | refine old_alloc ?_ _ | refine old_trans ?_ (by assumption)))⟩
        rw [hp.out, t2]
        rfl
  · have hp : Hid (sokB wd true lo hi = pokB wd lo hi) := rfl
    have H3 := hd (sPairL true lo hi)
    go_enter Tryz.func46, Tryz.ntmps46
    go_wp2_with fail
    refine (H3.out _).mono ?_
    rintro e w1 ⟨rfl, hb1⟩
    go_wp2_with fail
    refine (H1.out _).mono ?_
    rintro e w2 ⟨rfl, hb2⟩
    go_wp2
    go_ret
    exact ⟨ret_b (by rw [hp.out]), (by repeat (first | exact Below.refl _ _ | refine Below.drew ?_ | refine old_alloc ?_ _ | refine old_trans ?_ (by assumption)))⟩

/-- three cells of a block of our own, that may be written -/
structure S3 (w : World) (b : Nat) (x y z : Value) : Prop where
  cells : w.cell? ⟨b, 0, none⟩ = some x ∧ w.cell? ⟨b, 1, none⟩ = some y ∧ w.cell? ⟨b, 2, none⟩ = some z
  froz : w.frozen? ⟨b, 0, none⟩ = false ∧ w.frozen? ⟨b, 1, none⟩ = false ∧ w.frozen? ⟨b, 2, none⟩ = false
  lt : b < w.heap.size
theorem S3.later {w w1 : World} {b : Nat} {x y z : Value} (h : S3 w b x y z) (hb : Below w.heap.size w w1) : S3 w1 b x y z := by
  obtain ⟨⟨h1, h2, h3⟩, ⟨g1, g2, g3⟩, h5⟩ := h
  exact ⟨⟨(hb.cell (p := ⟨b, 0, none⟩) h5).trans h1, (hb.cell (p := ⟨b, 1, none⟩) h5).trans h2, (hb.cell (p := ⟨b, 2, none⟩) h5).trans h3⟩, ⟨(hb.frozen (p := ⟨b, 0, none⟩) h5).trans g1, (hb.frozen (p := ⟨b, 1, none⟩) h5).trans g2, (hb.frozen (p := ⟨b, 2, none⟩) h5).trans g3⟩, Nat.lt_of_lt_of_le h5 hb.size⟩
theorem S3.alloc {w : World} {b : Nat} {x y z : Value} (h : S3 w b x y z) (o : Obj) : S3 (w.alloc o) b x y z := h.later ((Below.refl _ _).alloc (Nat.le_refl _) o)
theorem S3.drew {w : World} {b : Nat} {x y z : Value} (h : S3 w b x y z) : S3 w.drew b x y z := ⟨h.cells, h.froz, h.lt⟩
theorem S3.made (w : World) (b : Nat) (hb : b = w.heap.size) (x y z : Value) (t : TypeId) : S3 (w.alloc (.cells #[x, y, z] t)) b x y z := by subst hb; exact ⟨⟨by simp, by simp, by simp⟩, ⟨by simp, by simp, by simp⟩, by simp⟩
theorem S3.far {w : World} {b c i : Nat} {x y z v : Value} (h : S3 w b x y z) (hn : b ≠ c) : S3 (w.setCell ⟨c, i, none⟩ v) b x y z := by
  obtain ⟨⟨a0, a1, a2⟩, ⟨f0, f1, f2⟩, h1⟩ := h
  have o : ∀ (j : Nat), (w.setCell ⟨c, i, none⟩ v).cell? ⟨b, j, none⟩ = w.cell? ⟨b, j, none⟩ := fun j => World.cell?_setCell_other _ _ _ _ (by intro h; injection h with h2 _; omega)
  exact ⟨⟨(o 0).trans a0, (o 1).trans a1, (o 2).trans a2⟩, ⟨by simpa using f0, by simpa using f1, by simpa using f2⟩, by simpa [World.setCell] using h1⟩
theorem S3.others {w : World} {b c : Nat} {x y z : Value} (h : S3 w b x y z) (hn : b ≠ c) (u0 u1 u2 : Value) : S3 (((w.setCell ⟨c, 0, none⟩ u0).setCell ⟨c, 1, none⟩ u1).setCell ⟨c, 2, none⟩ u2) b x y z := ((h.far hn).far hn).far hn
theorem set3o (W : World) (b i j : Nat) (v : Value) (hn : i ≠ j) : (W.setCell ⟨b, j, none⟩ v).cell? ⟨b, i, none⟩ = W.cell? ⟨b, i, none⟩ := World.cell?_setCell_other _ _ _ _ (by intro h; injection h with _ h2; omega)
theorem S3.stored {w : World} {b : Nat} {x y z : Value} (h : S3 w b x y z) (u0 u1 u2 : Value) : S3 (((w.setCell ⟨b, 0, none⟩ u0).setCell ⟨b, 1, none⟩ u1).setCell ⟨b, 2, none⟩ u2) b u0 u1 u2 := by
  obtain ⟨⟨a0, a1, a2⟩, ⟨f0, f1, f2⟩, h1⟩ := h
  refine ⟨⟨?_, ?_, ?_⟩, ⟨by simpa using f0, by simpa using f1, by simpa using f2⟩, by simpa [World.setCell] using h1⟩
  · rw [set3o _ _ _ _ _ (by omega), set3o _ _ _ _ _ (by omega)]; exact World.cell?_setCell_same _ _ _ a0
  · rw [set3o _ _ _ _ _ (by omega)]; exact World.cell?_setCell_same _ _ _ ((set3o _ _ _ _ _ (by omega)).trans a1)
  · exact World.cell?_setCell_same _ _ _ ((set3o _ _ _ _ _ (by omega)).trans ((set3o _ _ _ _ _ (by omega)).trans a2))
end Go.Proofs.YtpjagplloljefaaGreat
