/- Spans as triples: what both have, what is around both, turned at nought; the contracts of the program and of the specification in these words. Nothing that was there is written. -/
import Derived.Test.YtpjagplloljefaaGreatS9
import Derived.Test.YtpjagplloljefaaGreatST
import Derived.Test.YtpjagplloljefaaGreatRQ
namespace Go.Proofs.YtpjagplloljefaaGreat
open Go.RowKit
set_option linter.unusedVariables false
set_option maxRecDepth 100000

structure Sp where
  s : Bool
  lo : Int
  hi : Int
def nilS : Sp := ⟨false, 0, 0⟩
def someS (wd : Int) (x : Sp) : Bool := x.s && pokB wd x.lo x.hi
def okS (wd : Int) (x : Sp) : Bool := sokB wd x.s x.lo x.hi
def ifS (r : Bool) (lo hi : Int) : Sp := ⟨r, if r then lo else 0, if r then hi else 0⟩
def meetS (wd : Int) (x y : Sp) : Sp := ifS (bothB wd x.s y.s x.lo x.hi y.lo y.hi && decide (max x.lo y.lo ≤ min x.hi y.hi)) (max x.lo y.lo) (min x.hi y.hi)
def hullS (wd : Int) (x y : Sp) : Sp := ⟨hulB wd x.s y.s x.lo x.hi y.lo y.hi, hulL wd x.s y.s x.lo x.hi y.lo y.hi, hulH wd x.s y.s x.lo x.hi y.lo y.hi⟩
def negS (wd : Int) (x : Sp) : Sp := ifS (bothB wd x.s x.s x.lo x.hi x.lo x.hi && true) (-x.hi) (-x.lo)
theorem both_some (wd : Int) (x y : Sp) : bothB wd x.s y.s x.lo x.hi y.lo y.hi = (someS wd x && someS wd y) := rfl
theorem ifS_no (lo hi : Int) : ifS false lo hi = nilS := rfl
theorem ifS_yes (lo hi : Int) : ifS true lo hi = ⟨true, lo, hi⟩ := rfl
theorem meet_no1 {wd : Int} {x : Sp} (y : Sp) (h : someS wd x = false) : meetS wd x y = nilS := by
  unfold meetS; rw [both_some, h]; rfl
theorem meet_no2 {wd : Int} (x : Sp) {y : Sp} (h : someS wd y = false) : meetS wd x y = nilS := by
  unfold meetS; rw [both_some, h, Bool.and_false]; rfl
theorem some_nil (wd : Int) : someS wd nilS = false := rfl
theorem some_in {wd : Int} {x : Sp} (h : someS wd x = true) : x.s = true ∧ pokB wd x.lo x.hi = true := by
  unfold someS at h; simpa using h
theorem some_w {wd : Int} {x : Sp} (h : someS wd x = true) : wd = 32 ∨ wd = 64 := (okB_in (pokB_in (some_in h).2).1).1
theorem ok_nil {wd : Int} (h : wd = 32 ∨ wd = 64) : okS wd nilS = true := by
  unfold okS sokB isW nilS; simp [h]
theorem ok_some {wd : Int} {x : Sp} (h : someS wd x = true) : okS wd x = true := by
  obtain ⟨h1, h2⟩ := some_in h
  unfold okS sokB; rw [h1, if_pos rfl, h2]
theorem meet_ok {wd : Int} (h : wd = 32 ∨ wd = 64) (x y : Sp) : okS wd (meetS wd x y) = true := by
  unfold meetS
  rw [both_some]
  cases hx : someS wd x
  · exact ok_nil h
  cases hy : someS wd y
  · exact ok_nil h
  by_cases hd : max x.lo y.lo ≤ min x.hi y.hi
  · rw [decide_eq_true hd]
    show okS wd ⟨true, max x.lo y.lo, min x.hi y.hi⟩ = true
    have q1 := pokB_in (some_in hx).2
    have q2 := pokB_in (some_in hy).2
    have r1 := okB_in q1.1
    have r2 := okB_in q1.2.1
    have r3 := okB_in q2.1
    have r4 := okB_in q2.2.1
    obtain ⟨xs, a, b⟩ := x
    obtain ⟨ys, c, d⟩ := y
    dsimp only at *
    have g1 : okB wd (max a c) = true := decide_eq_true ⟨h, by omega, by omega⟩
    have g2 : okB wd (min b d) = true := decide_eq_true ⟨h, by omega, by omega⟩
    have e : pokB wd (max a c) (min b d) = true := pokB_mk g1 g2 hd (by omega) (by omega)
    exact e
  · rw [decide_eq_false hd]; exact ok_nil h
theorem hull_nil2 {wd : Int} {x : Sp} (h : okS wd x = true) (hw : wd = 32 ∨ wd = 64) : hullS wd x nilS = x := by
  have hn : sokB wd false 0 0 = true := ok_nil hw
  obtain ⟨s, a, b⟩ := x
  have h' : sokB wd s a b = true := h
  have e : hulB wd s false a b 0 0 = s := by unfold hulB; rw [h', hn]; cases s <;> rfl
  unfold hullS hulL hulH nilS
  dsimp only
  rw [e]
  cases s
  · obtain ⟨rfl, rfl⟩ := sok_none rfl h'; rfl
  · rfl
theorem hull_nil (wd : Int) : hullS wd nilS nilS = nilS := by
  unfold hullS hulL hulH nilS
  have e : hulB wd false false 0 0 0 0 = false := by unfold hulB; cases sokB wd false 0 0 <;> rfl
  dsimp only
  rw [e]; rfl
theorem neg_no {wd : Int} {x : Sp} (h : someS wd x = false) : negS wd x = nilS := by
  unfold negS; rw [both_some, h]; rfl
theorem neg_yes {wd : Int} {x : Sp} (h : someS wd x = true) : negS wd x = ⟨true, -x.hi, -x.lo⟩ := by
  unfold negS; rw [both_some, h]; rfl
theorem pok_neg {wd a b : Int} (h : pokB wd a b = true) : pokB wd (-b) (-a) = true := by
  have q := pokB_in h
  have r1 := okB_in q.1
  have r2 := okB_in q.2.1
  exact pokB_mk (by unfold okB; exact decide_eq_true ⟨r1.1, by omega, by omega⟩) (by unfold okB; exact decide_eq_true ⟨r1.1, by omega, by omega⟩) (by omega) (by omega) (by omega)
theorem neg_some (wd : Int) (x : Sp) : someS wd (negS wd x) = someS wd x := by
  cases h : someS wd x
  · rw [neg_no h]; rfl
  · rw [neg_yes h]
    exact pok_neg (some_in h).2
theorem neg_neg {wd : Int} {x : Sp} (h : someS wd x = true) : negS wd (negS wd x) = x := by
  rw [neg_yes ((neg_some wd x).trans h), neg_yes h]
  obtain ⟨h1, h2⟩ := some_in h
  obtain ⟨s, a, b⟩ := x
  cases h1
  simp
theorem iMeetS (wd : Int) (s1 s2 : Bool) (a b c d : Int) (w : World) :
    Calls Tryz.prog 23 #[.int .i64 wd, .agg #[.bool s1, .int .i64 a, .int .i64 b], .agg #[.bool s2, .int .i64 c, .int .i64 d]] w fun e w' => e = .returned (.agg #[.bool (meetS wd ⟨s1, a, b⟩ ⟨s2, c, d⟩).s, .int .i64 (meetS wd ⟨s1, a, b⟩ ⟨s2, c, d⟩).lo, .int .i64 (meetS wd ⟨s1, a, b⟩ ⟨s2, c, d⟩).hi]) ∧ Below w.heap.size w w' := iSpanMeet wd s1 s2 a b c d w
theorem iHullS (wd : Int) (s1 s2 : Bool) (a b c d : Int) (w : World) :
    Calls Tryz.prog 53 #[.int .i64 wd, .agg #[.bool s1, .int .i64 a, .int .i64 b], .agg #[.bool s2, .int .i64 c, .int .i64 d]] w fun e w' => e = .returned (.agg #[.bool (hullS wd ⟨s1, a, b⟩ ⟨s2, c, d⟩).s, .int .i64 (hullS wd ⟨s1, a, b⟩ ⟨s2, c, d⟩).lo, .int .i64 (hullS wd ⟨s1, a, b⟩ ⟨s2, c, d⟩).hi]) ∧ Below w.heap.size w w' := iSpanHull wd s1 s2 a b c d w
theorem iNegS (wd : Int) (s1 : Bool) (a b : Int) (w : World) :
    Calls Tryz.prog 25 #[.int .i64 wd, .agg #[.bool s1, .int .i64 a, .int .i64 b]] w fun e w' => e = .returned (.agg #[.bool (negS wd ⟨s1, a, b⟩).s, .int .i64 (negS wd ⟨s1, a, b⟩).lo, .int .i64 (negS wd ⟨s1, a, b⟩).hi]) ∧ Below w.heap.size w w' := iSpanNeg wd s1 a b w
theorem sMeetS (wd : Int) (s1 s2 : Bool) (a b c d : Int) (w : World) :
    Calls Tryz.prog 22 #[.int .i64 wd, .agg #[.bool s1, .int .i64 a, .int .i64 b], .agg #[.bool s2, .int .i64 c, .int .i64 d]] w fun e w' => e = .returned (.agg #[.bool (meetS wd ⟨s1, a, b⟩ ⟨s2, c, d⟩).s, .int .i64 (meetS wd ⟨s1, a, b⟩ ⟨s2, c, d⟩).lo, .int .i64 (meetS wd ⟨s1, a, b⟩ ⟨s2, c, d⟩).hi]) ∧ Below w.heap.size w w' := sSpanMeet wd s1 s2 a b c d w
theorem sHullS (wd : Int) (s1 s2 : Bool) (a b c d : Int) (w : World) :
    Calls Tryz.prog 39 #[.int .i64 wd, .agg #[.bool s1, .int .i64 a, .int .i64 b], .agg #[.bool s2, .int .i64 c, .int .i64 d]] w fun e w' => e = .returned (.agg #[.bool (hullS wd ⟨s1, a, b⟩ ⟨s2, c, d⟩).s, .int .i64 (hullS wd ⟨s1, a, b⟩ ⟨s2, c, d⟩).lo, .int .i64 (hullS wd ⟨s1, a, b⟩ ⟨s2, c, d⟩).hi]) ∧ Below w.heap.size w w' := sSpanHull wd s1 s2 a b c d w
theorem sNegS (wd : Int) (s1 : Bool) (a b : Int) (w : World) :
    Calls Tryz.prog 24 #[.int .i64 wd, .agg #[.bool s1, .int .i64 a, .int .i64 b]] w fun e w' => e = .returned (.agg #[.bool (negS wd ⟨s1, a, b⟩).s, .int .i64 (negS wd ⟨s1, a, b⟩).lo, .int .i64 (negS wd ⟨s1, a, b⟩).hi]) ∧ Below w.heap.size w w' := sSpanNeg wd s1 a b w
end Go.Proofs.YtpjagplloljefaaGreat
