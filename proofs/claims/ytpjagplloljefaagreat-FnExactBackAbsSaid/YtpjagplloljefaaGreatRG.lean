/- What goes back, by the program: the parts of size; nothing that was there is written. -/
import Derived.Test.YtpjagplloljefaaGreatRB
namespace Go.Proofs.YtpjagplloljefaaGreat
open Go.RowKit
set_option linter.unusedVariables false
set_option maxRecDepth 100000

set_option maxHeartbeats 4000000 in
theorem iSizeP (wd : Int) (s1 s2 : Bool) (a b c d : Int) (w : World) :
    Calls Tryz.prog 141 #[.agg #[.bool s1, .int .i64 a, .int .i64 b, .bool s2, .int .i64 c, .int .i64 d], .int .i64 wd] w fun e w' => e = .returned (.tuple #[.agg #[.bool (fromS wd ⟨s1, a, b⟩).s, .int .i64 (fromS wd ⟨s1, a, b⟩).lo, .int .i64 (fromS wd ⟨s1, a, b⟩).hi], .agg #[.bool (negS wd (fromS wd ⟨s1, a, b⟩)).s, .int .i64 (negS wd (fromS wd ⟨s1, a, b⟩)).lo, .int .i64 (negS wd (fromS wd ⟨s1, a, b⟩)).hi]]) ∧ Below w.heap.size w w' := by
  have H1 := hd (iSizesK wd s1 s2 a b c d)
  generalize fromS wd ⟨s1, a, b⟩ = r at *
  obtain ⟨r1, r2, r3⟩ := r
  dsimp only at *
  have H3 := hd (iBothSigns wd r1 r2 r3)
  generalize negS wd ⟨r1, r2, r3⟩ = u at *
  obtain ⟨u1, u2, u3⟩ := u
  dsimp only at *
  have K := ((S6.made w _ rfl (.bool s1) (.int .i64 a) (.int .i64 b) (.bool s2) (.int .i64 c) (.int .i64 d) 47).alloc (.cells #[.bool false, .int .i64 0, .int .i64 0] 24)).alloc (.cells #[.bool false, .int .i64 0, .int .i64 0] 24)
  have N := (S3.made (w.alloc (.cells #[.bool s1, .int .i64 a, .int .i64 b, .bool s2, .int .i64 c, .int .i64 d] 47)) (w.heap.size + 1) (by simp) (.bool false) (.int .i64 0) (.int .i64 0) 24).alloc (.cells #[.bool false, .int .i64 0, .int .i64 0] 24)
  have M := S3.made ((w.alloc (.cells #[.bool s1, .int .i64 a, .int .i64 b, .bool s2, .int .i64 c, .int .i64 d] 47)).alloc (.cells #[.bool false, .int .i64 0, .int .i64 0] 24)) (w.heap.size + 1 + 1) (by simp) (.bool false) (.int .i64 0) (.int .i64 0) 24
  obtain ⟨k0, k1, k2, k3, k4, k5, kz⟩ := id K
  have z1 : w.heap.size ≠ w.heap.size + 1 := by omega
  have z2 : w.heap.size + 1 ≠ w.heap.size := by omega
  have z3 : w.heap.size ≠ w.heap.size + 1 + 1 := by omega
  have z4 : w.heap.size + 1 + 1 ≠ w.heap.size := by omega
  have z5 : w.heap.size + 1 ≠ w.heap.size + 1 + 1 := by omega
  have z6 : w.heap.size + 1 + 1 ≠ w.heap.size + 1 := by omega
  go_enter Tryz.func141, Tryz.ntmps141
  go_wp2_with fail
  refine (H1.out _).mono ?_
  rintro e w1 ⟨rfl, hb1⟩
  replace N := N.later hb1
  replace M := M.later hb1
  go_wp2_with fail
  refine (H3.out _).mono ?_
  rintro e w3 ⟨rfl, hb3⟩
  replace N := N.later hb3
  replace M := M.later hb3
  obtain ⟨⟨N0, N1, N2⟩, ⟨Nf, Ng, Nh⟩, Nz⟩ := id N
  obtain ⟨⟨M0, M1, M2⟩, ⟨Mf, Mg, Mh⟩, Mz⟩ := id M
  go_wp2
  refine bodyPost_ret (v := .tuple #[.agg #[.bool r1, .int .i64 r2, .int .i64 r3], .agg #[.bool u1, .int .i64 u2, .int .i64 u3]]) ?_ rfl ⟨rfl, (by repeat (first | with_reducible exact Below.refl _ _ | with_reducible refine Below.drew ?_ | ((with_reducible refine Below.setCell ?_ ?_ _); rotate_left; (focus (first | (simp; done) | omega | (simp; omega)))) | with_reducible refine old_alloc ?_ _ | with_reducible refine old_trans ?_ (by with_reducible assumption)))⟩
  simp [results, Tryz.results141, go_sem, N0, N1, N2, M0, M1, M2]
end Go.Proofs.YtpjagplloljefaaGreat
