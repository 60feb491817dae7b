/- What goes back, by the program: the parts of lesser; nothing that was there is written. -/
import Derived.Test.YtpjagplloljefaaGreatRB
namespace Go.Proofs.YtpjagplloljefaaGreat
open Go.RowKit
set_option linter.unusedVariables false
set_option maxRecDepth 100000

/-- six cells of one block, that may be written -/
structure S6f (w : World) (b : Nat) (x0 x1 x2 x3 x4 x5 : Value) : Prop where
  base : S6 w b x0 x1 x2 x3 x4 x5
  froz : w.frozen? ⟨b, 0, none⟩ = false ∧ w.frozen? ⟨b, 1, none⟩ = false ∧ w.frozen? ⟨b, 2, none⟩ = false ∧ w.frozen? ⟨b, 3, none⟩ = false ∧ w.frozen? ⟨b, 4, none⟩ = false ∧ w.frozen? ⟨b, 5, none⟩ = false
theorem S6f.later {w w1 : World} {b : Nat} {x0 x1 x2 x3 x4 x5 : Value} (h : S6f w b x0 x1 x2 x3 x4 x5) (hb : Below w.heap.size w w1) : S6f w1 b x0 x1 x2 x3 x4 x5 := by
  obtain ⟨g, f0, f1, f2, f3, f4, f5⟩ := h
  have l := g.lt
  exact ⟨g.later hb, (hb.frozen (p := ⟨b, 0, none⟩) l).trans f0, (hb.frozen (p := ⟨b, 1, none⟩) l).trans f1, (hb.frozen (p := ⟨b, 2, none⟩) l).trans f2, (hb.frozen (p := ⟨b, 3, none⟩) l).trans f3, (hb.frozen (p := ⟨b, 4, none⟩) l).trans f4, (hb.frozen (p := ⟨b, 5, none⟩) l).trans f5⟩
theorem S6f.drew {w : World} {b : Nat} {x0 x1 x2 x3 x4 x5 : Value} (h : S6f w b x0 x1 x2 x3 x4 x5) : S6f w.drew b x0 x1 x2 x3 x4 x5 := ⟨h.base.drew, h.froz⟩
theorem S6f.made (w : World) (b : Nat) (hb : b = w.heap.size) (x0 x1 x2 x3 x4 x5 : Value) (t : TypeId) : S6f (w.alloc (.cells #[x0, x1, x2, x3, x4, x5] t)) b x0 x1 x2 x3 x4 x5 := ⟨S6.made w b hb x0 x1 x2 x3 x4 x5 t, by subst hb; simp⟩
def lessP (wd : Int) (z y : Sp) : Sp := if y.hi < z.lo then nilS else if z.hi < y.lo then z else ⟨true, z.lo, topI wd⟩
theorem ret_t {r r' : Bool} {x x' y y' : Int} {v : Value} (S S' : Sp) (h : S = S') : Ending.returned (.tuple #[.agg #[.bool (S).s, .int .i64 (S).lo, .int .i64 (S).hi], v]) = .returned (.tuple #[.agg #[.bool (S').s, .int .i64 (S').lo, .int .i64 (S').hi], v]) := by rw [h]
set_option maxHeartbeats 4000000 in
theorem iLesserP (wd : Int) (s1 s2 : Bool) (a b c d : Int) (w : World) :
    Calls Tryz.prog 144 #[.agg #[.bool s1, .int .i64 a, .int .i64 b, .bool s2, .int .i64 c, .int .i64 d], .int .i64 wd] w fun e w' => e = .returned (.tuple #[.agg #[.bool (lessP wd ⟨s1, a, b⟩ ⟨s2, c, d⟩).s, .int .i64 (lessP wd ⟨s1, a, b⟩ ⟨s2, c, d⟩).lo, .int .i64 (lessP wd ⟨s1, a, b⟩ ⟨s2, c, d⟩).hi], .agg #[.bool false, .int .i64 0, .int .i64 0]]) ∧ Below w.heap.size w w' := by
  have H1 := hd (iFromOn wd a)
  have e1 : Hid (d < a → lessP wd ⟨s1, a, b⟩ ⟨s2, c, d⟩ = nilS) := fun h => if_pos h
  have e2 : Hid (¬ d < a → b < c → lessP wd ⟨s1, a, b⟩ ⟨s2, c, d⟩ = ⟨s1, a, b⟩) := fun h g => by unfold lessP; rw [if_neg h, if_pos g]
  have e3 : Hid (¬ d < a → ¬ b < c → lessP wd ⟨s1, a, b⟩ ⟨s2, c, d⟩ = ⟨true, a, topI wd⟩) := fun h g => by unfold lessP; rw [if_neg h, if_neg g]
  generalize lessP wd ⟨s1, a, b⟩ ⟨s2, c, d⟩ = r at *
  generalize topI wd = t at *
  have K := ((S6.made w _ rfl (.bool s1) (.int .i64 a) (.int .i64 b) (.bool s2) (.int .i64 c) (.int .i64 d) 49).alloc (.cells #[.bool false, .int .i64 0, .int .i64 0] 24)).alloc (.cells #[.bool false, .int .i64 0, .int .i64 0] 24)
  have N := (S3.made (w.alloc (.cells #[.bool s1, .int .i64 a, .int .i64 b, .bool s2, .int .i64 c, .int .i64 d] 49)) (w.heap.size + 1) (by simp) (.bool false) (.int .i64 0) (.int .i64 0) 24).alloc (.cells #[.bool false, .int .i64 0, .int .i64 0] 24)
  have M := S3.made ((w.alloc (.cells #[.bool s1, .int .i64 a, .int .i64 b, .bool s2, .int .i64 c, .int .i64 d] 49)).alloc (.cells #[.bool false, .int .i64 0, .int .i64 0] 24)) (w.heap.size + 1 + 1) (by simp) (.bool false) (.int .i64 0) (.int .i64 0) 24
  obtain ⟨k0, k1, k2, k3, k4, k5, kz⟩ := id K
  obtain ⟨⟨N0, N1, N2⟩, ⟨Nf, Ng, Nh⟩, Nz⟩ := id N
  obtain ⟨⟨M0, M1, M2⟩, ⟨Mf, Mg, Mh⟩, Mz⟩ := id M
  have z1 : w.heap.size ≠ w.heap.size + 1 := by omega
  have z2 : w.heap.size + 1 ≠ w.heap.size := by omega
  have z3 : w.heap.size ≠ w.heap.size + 1 + 1 := by omega
  have z4 : w.heap.size + 1 + 1 ≠ w.heap.size := by omega
  have z5 : w.heap.size + 1 ≠ w.heap.size + 1 + 1 := by omega
  have z6 : w.heap.size + 1 + 1 ≠ w.heap.size + 1 := by omega
  by_cases h1 : d < a
  · obtain rfl := (e1.out h1).symm
    go_enter Tryz.func144, Tryz.ntmps144
    go_wp2
    refine bodyPost_ret (v := .tuple #[.agg #[.bool false, .int .i64 0, .int .i64 0], .agg #[.bool false, .int .i64 0, .int .i64 0]]) ?_ rfl ⟨rfl, (by repeat (first | with_reducible exact Below.refl _ _ | with_reducible refine Below.drew ?_ | ((with_reducible refine Below.setCell ?_ ?_ _); rotate_left; (focus (first | (simp; done) | omega | (simp; omega)))) | with_reducible refine old_alloc ?_ _ | with_reducible refine old_trans ?_ (by with_reducible assumption)))⟩
    simp [results, Tryz.results144, go_sem]
  by_cases h2 : b < c
  · obtain rfl := (e2.out h1 h2).symm
    go_enter Tryz.func144, Tryz.ntmps144
    go_wp2
    refine bodyPost_ret (v := .tuple #[.agg #[.bool s1, .int .i64 a, .int .i64 b], .agg #[.bool false, .int .i64 0, .int .i64 0]]) ?_ rfl ⟨rfl, (by repeat (first | with_reducible exact Below.refl _ _ | with_reducible refine Below.drew ?_ | ((with_reducible refine Below.setCell ?_ ?_ _); rotate_left; (focus (first | (simp; done) | omega | (simp; omega)))) | with_reducible refine old_alloc ?_ _ | with_reducible refine old_trans ?_ (by with_reducible assumption)))⟩
    simp [results, Tryz.results144, go_sem]
  obtain rfl := (e3.out h1 h2).symm
  clear e1 e2 e3
  go_enter Tryz.func144, Tryz.ntmps144
  go_wp2_with fail
  refine (H1.out _).mono ?_
  rintro e w1 ⟨rfl, hb1⟩
  replace N := N.later hb1
  replace M := M.later hb1
  clear N0 N1 N2 Nf Ng Nh Nz M0 M1 M2 Mf Mg Mh Mz
  obtain ⟨⟨N0, N1, N2⟩, ⟨Nf, Ng, Nh⟩, Nz⟩ := id N
  obtain ⟨⟨M0, M1, M2⟩, ⟨Mf, Mg, Mh⟩, Mz⟩ := id M
  go_wp2
  refine bodyPost_ret (v := .tuple #[.agg #[.bool true, .int .i64 a, .int .i64 t], .agg #[.bool false, .int .i64 0, .int .i64 0]]) ?_ rfl ⟨rfl, (by repeat (first | with_reducible exact Below.refl _ _ | with_reducible refine Below.drew ?_ | ((with_reducible refine Below.setCell ?_ ?_ _); rotate_left; (focus (first | (simp; done) | omega | (simp; omega)))) | with_reducible refine old_alloc ?_ _ | with_reducible refine old_trans ?_ (by with_reducible assumption)))⟩
  simp [results, Tryz.results144, go_sem, N0, N1, N2, M0, M1, M2]
end Go.Proofs.YtpjagplloljefaaGreat
