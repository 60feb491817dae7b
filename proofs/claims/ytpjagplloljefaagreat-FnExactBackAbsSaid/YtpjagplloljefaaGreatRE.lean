/- What goes back, by the program: what is known, turned; nothing that was there is written. -/
import Derived.Test.YtpjagplloljefaaGreatRD
namespace Go.Proofs.YtpjagplloljefaaGreat
open Go.RowKit
set_option linter.unusedVariables false
set_option maxRecDepth 100000

set_option maxHeartbeats 4000000 in
theorem iTurnedK (wd : Int) (s1 s2 : Bool) (a b c d : Int) (w : World) :
    Calls Tryz.prog 146 #[.agg #[.bool s1, .int .i64 a, .int .i64 b, .bool s2, .int .i64 c, .int .i64 d], .int .i64 wd] w fun e w' => e = .returned (.agg #[.bool (negS wd ⟨s1, a, b⟩).s, .int .i64 (negS wd ⟨s1, a, b⟩).lo, .int .i64 (negS wd ⟨s1, a, b⟩).hi, .bool (negS wd ⟨s2, c, d⟩).s, .int .i64 (negS wd ⟨s2, c, d⟩).lo, .int .i64 (negS wd ⟨s2, c, d⟩).hi]) ∧ Below w.heap.size w w' := by
  have H1 := hd (iNegS wd s1 a b)
  have H2 := hd (iNegS wd s2 c d)
  generalize negS wd ⟨s1, a, b⟩ = r at *
  generalize negS wd ⟨s2, c, d⟩ = r' at *
  obtain ⟨r, x, y⟩ := r
  obtain ⟨r', x', y'⟩ := r'
  dsimp only at *
  have K := (S6.made w _ rfl (.bool s1) (.int .i64 a) (.int .i64 b) (.bool s2) (.int .i64 c) (.int .i64 d) 45).alloc (.cells #[.bool false, .int .i64 0, .int .i64 0, .bool false, .int .i64 0, .int .i64 0] 45)
  have hz : (w.alloc (.cells #[.bool s1, .int .i64 a, .int .i64 b, .bool s2, .int .i64 c, .int .i64 d] 45)).heap.size = w.heap.size + 1 := by simp
  obtain ⟨k0, k1, k2, k3, k4, k5, kz⟩ := id K
  have C1 := hd (fun w' (hS : w'.cell? ⟨w.heap.size, 0, none⟩ = some (.bool s1) ∧ w'.cell? ⟨w.heap.size, 1, none⟩ = some (.int .i64 a) ∧ w'.cell? ⟨w.heap.size, 2, none⟩ = some (.int .i64 b) ∧ w'.cell? ⟨w.heap.size, 3, none⟩ = some (.bool s2) ∧ w'.cell? ⟨w.heap.size, 4, none⟩ = some (.int .i64 c) ∧ w'.cell? ⟨w.heap.size, 5, none⟩ = some (.int .i64 d)) => (H1.out w').mono (fun e w'' (k : _ ∧ _) => (⟨k, ⟨cell_later k.2 hS.1, cell_later k.2 hS.2.1, cell_later k.2 hS.2.2.1, cell_later k.2 hS.2.2.2.1, cell_later k.2 hS.2.2.2.2.1, cell_later k.2 hS.2.2.2.2.2⟩⟩ : (_ ∧ _) ∧ (w''.cell? ⟨w.heap.size, 0, none⟩ = some (.bool s1) ∧ w''.cell? ⟨w.heap.size, 1, none⟩ = some (.int .i64 a) ∧ w''.cell? ⟨w.heap.size, 2, none⟩ = some (.int .i64 b) ∧ w''.cell? ⟨w.heap.size, 3, none⟩ = some (.bool s2) ∧ w''.cell? ⟨w.heap.size, 4, none⟩ = some (.int .i64 c) ∧ w''.cell? ⟨w.heap.size, 5, none⟩ = some (.int .i64 d)))))
  have C2 := hd (fun w' (hS : w'.cell? ⟨w.heap.size, 0, none⟩ = some (.bool s1) ∧ w'.cell? ⟨w.heap.size, 1, none⟩ = some (.int .i64 a) ∧ w'.cell? ⟨w.heap.size, 2, none⟩ = some (.int .i64 b) ∧ w'.cell? ⟨w.heap.size, 3, none⟩ = some (.bool s2) ∧ w'.cell? ⟨w.heap.size, 4, none⟩ = some (.int .i64 c) ∧ w'.cell? ⟨w.heap.size, 5, none⟩ = some (.int .i64 d)) => (H2.out w').mono (fun e w'' (k : _ ∧ _) => (⟨k, ⟨cell_later k.2 hS.1, cell_later k.2 hS.2.1, cell_later k.2 hS.2.2.1, cell_later k.2 hS.2.2.2.1, cell_later k.2 hS.2.2.2.2.1, cell_later k.2 hS.2.2.2.2.2⟩⟩ : (_ ∧ _) ∧ (w''.cell? ⟨w.heap.size, 0, none⟩ = some (.bool s1) ∧ w''.cell? ⟨w.heap.size, 1, none⟩ = some (.int .i64 a) ∧ w''.cell? ⟨w.heap.size, 2, none⟩ = some (.int .i64 b) ∧ w''.cell? ⟨w.heap.size, 3, none⟩ = some (.bool s2) ∧ w''.cell? ⟨w.heap.size, 4, none⟩ = some (.int .i64 c) ∧ w''.cell? ⟨w.heap.size, 5, none⟩ = some (.int .i64 d)))))
  clear H1 H2
  have N := S6f.made (w.alloc (.cells #[.bool s1, .int .i64 a, .int .i64 b, .bool s2, .int .i64 c, .int .i64 d] 45)) (w.heap.size + 1) (by simp) (.bool false) (.int .i64 0) (.int .i64 0) (.bool false) (.int .i64 0) (.int .i64 0) 45
  have z1 : w.heap.size ≠ w.heap.size + 1 := by omega
  have z2 : w.heap.size + 1 ≠ w.heap.size := by omega
  have z3 : w.heap.size ≠ w.heap.size + 1 + 1 := by omega
  have z4 : w.heap.size + 1 + 1 ≠ w.heap.size := by omega
  have z5 : w.heap.size + 1 ≠ w.heap.size + 1 + 1 := by omega
  have z6 : w.heap.size + 1 + 1 ≠ w.heap.size + 1 := by omega
  go_enter Tryz.func146, Tryz.ntmps146
  go_wp2_with fail
  go_region_held3 (fun w' => w'.cell? ⟨w.heap.size, 0, none⟩ = some (.bool s1) ∧ w'.cell? ⟨w.heap.size, 1, none⟩ = some (.int .i64 a) ∧ w'.cell? ⟨w.heap.size, 2, none⟩ = some (.int .i64 b) ∧ w'.cell? ⟨w.heap.size, 3, none⟩ = some (.bool s2) ∧ w'.cell? ⟨w.heap.size, 4, none⟩ = some (.int .i64 c) ∧ w'.cell? ⟨w.heap.size, 5, none⟩ = some (.int .i64 d)) (go_keep) (first | (go_at_call 25; with_reducible refine (C1.out _ (by assumption)).mono ?_; rintro e wx ⟨⟨rfl, hbx⟩, hcx⟩; have N := (by first | exact N.later hbx | exact N.drew.later hbx : S6f wx _ _ _ _ _ _ _); obtain ⟨⟨N0, N1, N2, N3, N4, N5, Nz⟩, ⟨F0, F1, F2, F3, F4, F5⟩⟩ := id N) | (go_at_call 25; with_reducible refine (C2.out _ (by assumption)).mono ?_; rintro e wx ⟨⟨rfl, hbx⟩, hcx⟩; have N := (by first | exact N.later hbx | exact N.drew.later hbx : S6f wx _ _ _ _ _ _ _); obtain ⟨⟨N0, N1, N2, N3, N4, N5, Nz⟩, ⟨F0, F1, F2, F3, F4, F5⟩⟩ := id N))
  all_goals
    go_wp2
    refine bodyPost_ret (v := .agg #[.bool r, .int .i64 x, .int .i64 y, .bool r', .int .i64 x', .int .i64 y']) ?_ rfl ⟨rfl, (by repeat (first | with_reducible exact Below.refl _ _ | with_reducible refine Below.drew ?_ | ((with_reducible refine Below.setCell ?_ ?_ _); rotate_left; (focus (first | (simp; done) | omega | (simp; omega)))) | with_reducible refine old_alloc ?_ _ | with_reducible refine old_trans ?_ (by with_reducible assumption)))⟩
    simp [results, Tryz.results146, go_sem, N0, N1, N2, N3, N4, N5]
end Go.Proofs.YtpjagplloljefaaGreat
