/- Spans: what is reckoned of two spans' bounds without any rounding: what both have, turned, without sign, the lesser and the greater. Nothing that was there is written. -/
import Derived.Test.YtpjagplloljefaaGreatS4
import Derived.Deep.RegionHeld3
namespace Go.Proofs.YtpjagplloljefaaGreat
open Go.RowKit
set_option linter.unusedVariables false
set_option maxRecDepth 100000

theorem four_later {w w1 : World} {p q i j k l : Nat} {x y z u : Value} (h : w.cell? ⟨p, i, none⟩ = some x ∧ w.cell? ⟨p, j, none⟩ = some y ∧ w.cell? ⟨q, k, none⟩ = some z ∧ w.cell? ⟨q, l, none⟩ = some u) (hb : Below w.heap.size w w1) :
    w1.cell? ⟨p, i, none⟩ = some x ∧ w1.cell? ⟨p, j, none⟩ = some y ∧ w1.cell? ⟨q, k, none⟩ = some z ∧ w1.cell? ⟨q, l, none⟩ = some u :=
  ⟨cell_later hb h.1, cell_later hb h.2.1, cell_later hb h.2.2.1, cell_later hb h.2.2.2⟩
set_option maxHeartbeats 4000000 in
theorem iBMeetP (p : Nat) (a b c d : Int) (w : World) (hS : w.cell? ⟨p, 0, none⟩ = some (.int .i64 a) ∧ w.cell? ⟨p, 1, none⟩ = some (.int .i64 b) ∧ w.cell? ⟨p, 2, none⟩ = some (.int .i64 c) ∧ w.cell? ⟨p, 3, none⟩ = some (.int .i64 d)) :
    Calls Tryz.prog 78 #[.pointer (some ⟨p, 0, none⟩), .pointer (some ⟨p, 2, none⟩)] w fun e w' => (∃ x, e = .returned x ∧ Bnd w' 0 (decide (max a c ≤ min b d)) (max a c) (min b d) x) ∧ Below w.heap.size w w' := by
  have H0 := hd (iInner a b c d)
  have H := hd (fun w' (hS : w'.cell? ⟨p, 0, none⟩ = some (.int .i64 a) ∧ w'.cell? ⟨p, 1, none⟩ = some (.int .i64 b) ∧ w'.cell? ⟨p, 2, none⟩ = some (.int .i64 c) ∧ w'.cell? ⟨p, 3, none⟩ = some (.int .i64 d)) => (H0.out w').mono (fun e w'' (k : _ ∧ _) => (⟨k, four_later hS k.2⟩ : (_ ∧ _) ∧ (w''.cell? ⟨p, 0, none⟩ = some (.int .i64 a) ∧ w''.cell? ⟨p, 1, none⟩ = some (.int .i64 b) ∧ w''.cell? ⟨p, 2, none⟩ = some (.int .i64 c) ∧ w''.cell? ⟨p, 3, none⟩ = some (.int .i64 d)))))
  obtain ⟨h0, h1, h2, h3⟩ := id hS
  have z1 : w.heap.size ≠ p := World.new_ne w _ h0
  have z2 : w.heap.size ≠ p := World.new_ne w _ h2
  have z3 := z1.symm
  have z4 := z2.symm
  generalize max a c = x at *
  generalize min b d = y at *
  clear H0 hS
  by_cases t : y < x
  · have e1 : decide (x ≤ y) = false := by simp; omega
    rw [e1]
    go_enter Tryz.func78, Tryz.ntmps78
    go_wp2
    go_region_held3 (fun w' => w'.cell? ⟨p, 0, none⟩ = some (.int .i64 a) ∧ w'.cell? ⟨p, 1, none⟩ = some (.int .i64 b) ∧ w'.cell? ⟨p, 2, none⟩ = some (.int .i64 c) ∧ w'.cell? ⟨p, 3, none⟩ = some (.int .i64 d)) (go_keep) (first | (go_at_call 90; refine (H.out _ (by assumption)).mono ?_; rintro e w1 ⟨⟨rfl, hb1⟩, hc1⟩; (first | (have N := (Cel2.made _ _ rfl (.int .i64 0) (.int .i64 0) 52).later hb1; (try simp only [World.size_alloc] at N); have N0 := N.1; have N1 := N.2.1; have N2 := N.2.2.1; have N3 := N.2.2.2.1; have Nz := N.2.2.2.2) | (have N := (Cel2.made _ _ rfl (.int .i64 0) (.int .i64 0) 52).drew.later hb1; (try simp only [World.size_alloc] at N); have N0 := N.1; have N1 := N.2.1; have N2 := N.2.2.1; have N3 := N.2.2.2.1; have Nz := N.2.2.2.2) | skip)))
    all_goals
      go_wp2
      go_ret
      exact ⟨⟨_, rfl, .inl ⟨rfl, rfl⟩⟩, (by repeat (first | exact Below.refl _ _ | refine Below.drew ?_ | refine Below.setCell ?_ (by first | (simp; done) | omega | (simp; omega)) _ | refine old_alloc ?_ _ | refine old_trans ?_ (by assumption)))⟩
  · have e1 : decide (x ≤ y) = true := by simp; omega
    rw [e1]
    go_enter Tryz.func78, Tryz.ntmps78
    go_wp2
    go_region_held3 (fun w' => w'.cell? ⟨p, 0, none⟩ = some (.int .i64 a) ∧ w'.cell? ⟨p, 1, none⟩ = some (.int .i64 b) ∧ w'.cell? ⟨p, 2, none⟩ = some (.int .i64 c) ∧ w'.cell? ⟨p, 3, none⟩ = some (.int .i64 d)) (go_keep) (first | (go_at_call 90; refine (H.out _ (by assumption)).mono ?_; rintro e w1 ⟨⟨rfl, hb1⟩, hc1⟩; (first | (have N := (Cel2.made _ _ rfl (.int .i64 0) (.int .i64 0) 52).later hb1; (try simp only [World.size_alloc] at N); have N0 := N.1; have N1 := N.2.1; have N2 := N.2.2.1; have N3 := N.2.2.2.1; have Nz := N.2.2.2.2) | (have N := (Cel2.made _ _ rfl (.int .i64 0) (.int .i64 0) 52).drew.later hb1; (try simp only [World.size_alloc] at N); have N0 := N.1; have N1 := N.2.1; have N2 := N.2.2.1; have N3 := N.2.2.2.1; have Nz := N.2.2.2.2) | skip)))
    all_goals
      go_wp2
      go_ret
      exact ⟨⟨_, rfl, .inr ⟨rfl, _, rfl, Nat.zero_le _, Cel2.made _ _ (by simp) _ _ _⟩⟩, (by repeat (first | exact Below.refl _ _ | refine Below.drew ?_ | refine Below.setCell ?_ (by first | (simp; done) | omega | (simp; omega)) _ | refine old_alloc ?_ _ | refine old_trans ?_ (by assumption)))⟩
end Go.Proofs.YtpjagplloljefaaGreat
