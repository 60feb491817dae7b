/- PairHas of the specification: the walk, case 7. Conditions: contracts of what it calls. Nothing that was there is written. -/
import Derived.Test.YtlggbihdmabifaaGreatDoorPK32
import Derived.Deep.RegionHeld3
namespace Go.Proofs.YtlggbihdmabifaaGreatDoor
open Go.RowKit
set_option linter.unusedVariables false
set_option maxRecDepth 100000

set_option maxRecDepth 100000 in
set_option maxHeartbeats 16000000 in
theorem PHk6 {wd T lo hi : Int} {bg : Bool} {a b : Option Addr} {ca cb nA nB : Nat} {l1 l2 l3 l4 : List Int} {c1 c2 : Int} {sl sh : Bool} {w : World} (H : PHc wd T lo hi bg a b ca cb nA nB l1 l2 l3 l4 c1 c2 sl sh w) (hT : 0 ≤ T ∧ T ≤ 9218868437227405312) (el : lo ≠ -T) (d1 : decide (c1 ≤ 0) = false) :
    Calls Tryz.prog 15 #[.int .i64 wd, .agg #[.int .i64 lo, .int .i64 hi], .agg #[.bool bg, .slice a nA ca, .slice b nB cb]] w fun e w' => e = .returned (.bool false) ∧ Below w.heap.size w w' := by
  obtain ⟨T0, T1⟩ := hT
  have hw : IntKind.i64.wrap (-T) = -T := by rw [IntKind.wrap_i64]; omega
  have PO := hd H.po
  have FO := hd H.fo
  have TP := hd H.tp
  have FR := hd (fun w' (hS : w'.cell? ⟨w.heap.size, 0, none⟩ = some (.int .i64 lo) ∧ w'.cell? ⟨w.heap.size, 1, none⟩ = some (.int .i64 hi) ∧ w'.cell? ⟨w.heap.size + 1, 0, none⟩ = some (.bool bg) ∧ w'.cell? ⟨w.heap.size + 1, 1, none⟩ = some (.slice a nA ca) ∧ w'.cell? ⟨w.heap.size + 1, 2, none⟩ = some (.slice b nB cb)) => (H.fr w').mono (fun e w'' (k : _ ∧ _) => (⟨k, five_oldH hS k.2⟩ : (_ ∧ _) ∧ (w''.cell? ⟨w.heap.size, 0, none⟩ = some (.int .i64 lo) ∧ w''.cell? ⟨w.heap.size, 1, none⟩ = some (.int .i64 hi) ∧ w''.cell? ⟨w.heap.size + 1, 0, none⟩ = some (.bool bg) ∧ w''.cell? ⟨w.heap.size + 1, 1, none⟩ = some (.slice a nA ca) ∧ w''.cell? ⟨w.heap.size + 1, 2, none⟩ = some (.slice b nB cb)))))
  have OL := hd (fun w' (hS : w'.cell? ⟨w.heap.size, 0, none⟩ = some (.int .i64 lo) ∧ w'.cell? ⟨w.heap.size, 1, none⟩ = some (.int .i64 hi) ∧ w'.cell? ⟨w.heap.size + 1, 0, none⟩ = some (.bool bg) ∧ w'.cell? ⟨w.heap.size + 1, 1, none⟩ = some (.slice a nA ca) ∧ w'.cell? ⟨w.heap.size + 1, 2, none⟩ = some (.slice b nB cb)) => (H.ol el w').mono (fun e w'' (k : _ ∧ _) => (⟨k, five_oldH hS k.2⟩ : (_ ∧ _) ∧ (w''.cell? ⟨w.heap.size, 0, none⟩ = some (.int .i64 lo) ∧ w''.cell? ⟨w.heap.size, 1, none⟩ = some (.int .i64 hi) ∧ w''.cell? ⟨w.heap.size + 1, 0, none⟩ = some (.bool bg) ∧ w''.cell? ⟨w.heap.size + 1, 1, none⟩ = some (.slice a nA ca) ∧ w''.cell? ⟨w.heap.size + 1, 2, none⟩ = some (.slice b nB cb)))))
  have CL := hd (fun av cv bv dv w' (hS : w'.cell? ⟨w.heap.size, 0, none⟩ = some (.int .i64 lo) ∧ w'.cell? ⟨w.heap.size, 1, none⟩ = some (.int .i64 hi) ∧ w'.cell? ⟨w.heap.size + 1, 0, none⟩ = some (.bool bg) ∧ w'.cell? ⟨w.heap.size + 1, 1, none⟩ = some (.slice a nA ca) ∧ w'.cell? ⟨w.heap.size + 1, 2, none⟩ = some (.slice b nB cb)) i1 i2 (h : Below w.heap.size w w') => (H.cl el av cv bv dv w' i1 i2 h).mono (fun e w'' (k : _ ∧ _) => (⟨k, five_oldH hS k.2⟩ : (_ ∧ _) ∧ (w''.cell? ⟨w.heap.size, 0, none⟩ = some (.int .i64 lo) ∧ w''.cell? ⟨w.heap.size, 1, none⟩ = some (.int .i64 hi) ∧ w''.cell? ⟨w.heap.size + 1, 0, none⟩ = some (.bool bg) ∧ w''.cell? ⟨w.heap.size + 1, 1, none⟩ = some (.slice a nA ca) ∧ w''.cell? ⟨w.heap.size + 1, 2, none⟩ = some (.slice b nB cb)))))
  have gl : (lo == -T) = false := beq_eq_false_iff_ne.2 el
  clear H el
  generalize l1.length = n1 at *
  generalize l2.length = n2 at *
  generalize l3.length = n3 at *
  generalize l4.length = n4 at *
  have e0 : Below w.heap.size w ((w.alloc (.cells #[.int .i64 lo, .int .i64 hi] 46)).alloc (.cells #[.bool bg, .slice a nA ca, .slice b nB cb] 47)) := old_alloc (old_alloc (Below.refl _ _) _) _
  have k0 : ((w.alloc (.cells #[.int .i64 lo, .int .i64 hi] 46)).alloc (.cells #[.bool bg, .slice a nA ca, .slice b nB cb] 47)).cell? ⟨w.heap.size, 0, none⟩ = some (.int .i64 lo) ∧ ((w.alloc (.cells #[.int .i64 lo, .int .i64 hi] 46)).alloc (.cells #[.bool bg, .slice a nA ca, .slice b nB cb] 47)).cell? ⟨w.heap.size, 1, none⟩ = some (.int .i64 hi) ∧ ((w.alloc (.cells #[.int .i64 lo, .int .i64 hi] 46)).alloc (.cells #[.bool bg, .slice a nA ca, .slice b nB cb] 47)).cell? ⟨w.heap.size + 1, 0, none⟩ = some (.bool bg) ∧ ((w.alloc (.cells #[.int .i64 lo, .int .i64 hi] 46)).alloc (.cells #[.bool bg, .slice a nA ca, .slice b nB cb] 47)).cell? ⟨w.heap.size + 1, 1, none⟩ = some (.slice a nA ca) ∧ ((w.alloc (.cells #[.int .i64 lo, .int .i64 hi] 46)).alloc (.cells #[.bool bg, .slice a nA ca, .slice b nB cb] 47)).cell? ⟨w.heap.size + 1, 2, none⟩ = some (.slice b nB cb) := by simp
  go_enter Tryz.func15, Tryz.ntmps15
  obtain ⟨m0, m1, m2, m3, m4⟩ := id k0
  go_wp2_with fail
  refine (PO.out _).mono ?_
  rintro e w1 ⟨rfl, hb1⟩
  have k1 := five_oldH k0 hb1
  have B1 := old_trans e0 hb1
  clear m0 m1 m2 m3 m4 k0 PO
  obtain ⟨m0, m1, m2, m3, m4⟩ := id k1
  go_wp2_with fail
  refine (FO.out _ B1).mono ?_
  rintro e w2 ⟨rfl, hb2⟩
  have k2 := five_oldH k1 hb2
  have hB3 := old_trans B1 hb2
  clear m0 m1 m2 m3 m4 k1 FO e0 B1 hb1 hb2
  obtain ⟨m0, m1, m2, m3, m4⟩ := id k2
  have hk := k2
  go_wp2_with fail
  refine (TP.out _).mono ?_
  rintro e W3 ⟨rfl, rfl⟩
  go_wp2_with fail
  clear TP m0 m1 m2 m3 m4 k2
  have hB3d := hB3.drew
  refine wp_region_held_drew (S := fun w' => w'.cell? ⟨w.heap.size, 0, none⟩ = some (.int .i64 lo) ∧ w'.cell? ⟨w.heap.size, 1, none⟩ = some (.int .i64 hi) ∧ w'.cell? ⟨w.heap.size + 1, 0, none⟩ = some (.bool bg) ∧ w'.cell? ⟨w.heap.size + 1, 1, none⟩ = some (.slice a nA ca) ∧ w'.cell? ⟨w.heap.size + 1, 2, none⟩ = some (.slice b nB cb)) rfl hk ?_
  intro hS
  refine wpAnyH_take (i := 0) (v := ?_) rfl (by kernel_rfl) (by kernel_rfl) (by kernel_rfl) (fun _ _ _ h => h) (Or.inl ⟨by kernel_rfl, ?_⟩) hS ?_
  rotate_left
  · intro w' hS'; obtain ⟨s0, s1, s2, s3, s4⟩ := hS'; go_simp <;> with_reducible rfl
  refine wpAnyH_take (i := 1) (v := ?_) rfl (by kernel_rfl) (by kernel_rfl) (by kernel_rfl) (fun _ _ _ h => h) (Or.inl ⟨by kernel_rfl, ?_⟩) hS ?_
  rotate_left
  · intro w' hS'; obtain ⟨s0, s1, s2, s3, s4⟩ := hS'; go_simp <;> with_reducible rfl
  refine wpAnyH_take (i := 2) (v := ?_) rfl (by kernel_rfl) (by kernel_rfl) (by kernel_rfl) (fun _ _ _ h => h) (Or.inl ⟨by kernel_rfl, ?_⟩) hS ?_
  rotate_left
  · intro w' hS'; obtain ⟨s0, s1, s2, s3, s4⟩ := hS'; go_simp <;> with_reducible rfl
  refine wpAnyH_take (i := 3) (v := ?_) rfl (by kernel_rfl) (by kernel_rfl) (by kernel_rfl) (fun _ _ _ h => h) (Or.inl ⟨by kernel_rfl, ?_⟩) hS ?_
  rotate_left
  · intro w' hS'; obtain ⟨s0, s1, s2, s3, s4⟩ := hS'; go_simp <;> with_reducible rfl
  refine wpAnyH_take (i := 4) (v := ?_) rfl (by kernel_rfl) (by kernel_rfl) (by kernel_rfl) (fun _ _ _ h => h) (Or.inl ⟨by kernel_rfl, ?_⟩) hS ?_
  rotate_left
  · intro w' hS'; obtain ⟨s0, s1, s2, s3, s4⟩ := hS'; go_simp <;> with_reducible rfl
  refine wpAnyH_take (i := 5) (v := ?_) rfl (by kernel_rfl) (by kernel_rfl) (by kernel_rfl) (fun _ _ _ h => h) (Or.inl ⟨by kernel_rfl, ?_⟩) hS ?_
  rotate_left
  · intro w' hS'; obtain ⟨s0, s1, s2, s3, s4⟩ := hS'; go_simp <;> with_reducible rfl
  refine wpAnyH_take (i := 6) (v := ?_) rfl (by kernel_rfl) (by kernel_rfl) (by kernel_rfl) (fun _ _ _ h => h) (Or.inl ⟨by kernel_rfl, ?_⟩) hS ?_
  rotate_left
  · intro w' hS'; obtain ⟨s0, s1, s2, s3, s4⟩ := hS'; go_simp <;> with_reducible rfl
  refine wpAnyH_take (i := 7) (v := ?_) rfl (by kernel_rfl) (by kernel_rfl) (by kernel_rfl) (fun _ _ _ h => h) (Or.inl ⟨by kernel_rfl, ?_⟩) hS ?_
  rotate_left
  · intro w' hS'; obtain ⟨s0, s1, s2, s3, s4⟩ := hS'; go_simp <;> with_reducible rfl
  refine wpAnyH_take (i := 8) (v := ?_) rfl (by kernel_rfl) (by kernel_rfl) (by kernel_rfl) (fun _ _ _ h => h) (Or.inl ⟨by kernel_rfl, ?_⟩) hS ?_
  rotate_left
  · intro w' hS'; obtain ⟨s0, s1, s2, s3, s4⟩ := hS'; go_simp <;> with_reducible rfl
  refine wpAnyH_take (i := 10) (v := ?_) rfl (by kernel_rfl) (by kernel_rfl) (by kernel_rfl) (fun _ _ _ h => h) (Or.inl ⟨by kernel_rfl, ?_⟩) hS ?_
  rotate_left
  · intro w' hS'; obtain ⟨s0, s1, s2, s3, s4⟩ := hS'; go_simp <;> with_reducible rfl
  refine wpAnyH_ready (rs := [9]) (by kernel_rfl) (by simp) ?_
  refine AllReadyH.cons rfl (fun K hK => ?_) AllReadyH.nil
  go_simp
  refine (OL.out _ hS).mono ?_
  rintro e w4 ⟨⟨⟨av, cv, bv, dv, rfl, iv1, iv2⟩, hb4⟩, hc4⟩
  refine hK.out _ _ hc4 ?_
  intro hS4
  clear hK K
  have B4 := old_trans hB3d hb4
  refine wpAnyH_ready (rs := [11]) (by kernel_rfl) (by simp) ?_
  refine AllReadyH.cons rfl (fun K hK => ?_) AllReadyH.nil
  go_simp
  refine (FR.out _ hS4).mono ?_
  rintro e w5 ⟨⟨rfl, hb5⟩, hc5⟩
  refine hK.out _ _ hc5 ?_
  intro hS5
  clear hK K
  have B5 := old_trans B4 hb5
  refine wpAnyH_ready (rs := [12]) (by kernel_rfl) (by simp) ?_
  refine AllReadyH.cons rfl (fun K hK => ?_) AllReadyH.nil
  go_simp
  refine (CL.out _ _ _ _ _ hS5 (iv1.old hb5) (iv2.old hb5) B5).mono ?_
  rintro e w6 ⟨⟨rfl, hb6⟩, hc6⟩
  refine hK.out _ _ hc6 ?_
  intro hS6
  clear hK K
  have B6 := old_trans B5 hb6
  clear iv1 iv2 hb4 hb5 hb6 B4 B5
  refine wpAnyH_take (i := 13) (v := ?_) rfl (by kernel_rfl) (by kernel_rfl) (by kernel_rfl) (fun _ _ _ h => h) (Or.inl ⟨by kernel_rfl, ?_⟩) hS6 ?_
  rotate_left
  · intro w' hS'; obtain ⟨s0, s1, s2, s3, s4⟩ := hS'; go_simp <;> with_reducible rfl
  refine wpAnyH_take (i := 14) (v := ?_) rfl (by kernel_rfl) (by kernel_rfl) (by kernel_rfl) (fun _ _ _ h => h) (Or.inl ⟨by kernel_rfl, ?_⟩) hS6 ?_
  rotate_left
  · intro w' hS'; obtain ⟨s0, s1, s2, s3, s4⟩ := hS'; go_simp <;> with_reducible rfl
  refine wpAnyH_take (i := 15) (v := ?_) rfl (by kernel_rfl) (by kernel_rfl) (by kernel_rfl) (fun _ _ _ h => h) (Or.inl ⟨by kernel_rfl, ?_⟩) hS6 ?_
  rotate_left
  · intro w' hS'; obtain ⟨s0, s1, s2, s3, s4⟩ := hS'; go_simp <;> with_reducible rfl
  refine wpAnyH_take (i := 16) (v := undef) rfl (by kernel_rfl) (by kernel_rfl) (by kernel_rfl) (fun _ _ _ h => h) (Or.inr ⟨by kernel_rfl, rfl⟩) hS6 ?_
  refine wpAnyH_take (i := 17) (v := undef) rfl (by kernel_rfl) (by kernel_rfl) (by kernel_rfl) (fun _ _ _ h => h) (Or.inr ⟨by kernel_rfl, rfl⟩) hS6 ?_
  refine wpAnyH_take (i := 18) (v := undef) rfl (by kernel_rfl) (by kernel_rfl) (by kernel_rfl) (fun _ _ _ h => h) (Or.inr ⟨by kernel_rfl, rfl⟩) hS6 ?_
  refine wpAnyH_take (i := 19) (v := undef) rfl (by kernel_rfl) (by kernel_rfl) (by kernel_rfl) (fun _ _ _ h => h) (Or.inr ⟨by kernel_rfl, rfl⟩) hS6 ?_
  refine wpAnyH_take (i := 20) (v := undef) rfl (by kernel_rfl) (by kernel_rfl) (by kernel_rfl) (fun _ _ _ h => h) (Or.inr ⟨by kernel_rfl, rfl⟩) hS6 ?_
  refine wpAnyH_take (i := 21) (v := undef) rfl (by kernel_rfl) (by kernel_rfl) (by kernel_rfl) (fun _ _ _ h => h) (Or.inr ⟨by kernel_rfl, rfl⟩) hS6 ?_
  refine wpAnyH_take (i := 22) (v := undef) rfl (by kernel_rfl) (by kernel_rfl) (by kernel_rfl) (fun _ _ _ h => h) (Or.inr ⟨by kernel_rfl, rfl⟩) hS6 ?_
  refine wpAnyH_take (i := 23) (v := undef) rfl (by kernel_rfl) (by kernel_rfl) (by kernel_rfl) (fun _ _ _ h => h) (Or.inr ⟨by kernel_rfl, rfl⟩) hS6 ?_
  refine wpAnyH_take (i := 24) (v := undef) rfl (by kernel_rfl) (by kernel_rfl) (by kernel_rfl) (fun _ _ _ h => h) (Or.inr ⟨by kernel_rfl, rfl⟩) hS6 ?_
  refine wpAnyH_take (i := 25) (v := undef) rfl (by kernel_rfl) (by kernel_rfl) (by kernel_rfl) (fun _ _ _ h => h) (Or.inr ⟨by kernel_rfl, rfl⟩) hS6 ?_
  refine wpAnyH_take (i := 26) (v := undef) rfl (by kernel_rfl) (by kernel_rfl) (by kernel_rfl) (fun _ _ _ h => h) (Or.inr ⟨by kernel_rfl, rfl⟩) hS6 ?_
  refine wpAnyH_take (i := 27) (v := undef) rfl (by kernel_rfl) (by kernel_rfl) (by kernel_rfl) (fun _ _ _ h => h) (Or.inr ⟨by kernel_rfl, rfl⟩) hS6 ?_
  refine wpAnyH_take (i := 28) (v := undef) rfl (by kernel_rfl) (by kernel_rfl) (by kernel_rfl) (fun _ _ _ h => h) (Or.inr ⟨by kernel_rfl, rfl⟩) hS6 ?_
  refine wpAnyH_take (i := 29) (v := undef) rfl (by kernel_rfl) (by kernel_rfl) (by kernel_rfl) (fun _ _ _ h => h) (Or.inr ⟨by kernel_rfl, rfl⟩) hS6 ?_
  refine wpAnyH_take (i := 30) (v := ?_) rfl (by kernel_rfl) (by kernel_rfl) (by kernel_rfl) (fun _ _ _ h => h) (Or.inl ⟨by kernel_rfl, ?_⟩) hS6 ?_
  rotate_left
  · intro w' hS'; obtain ⟨s0, s1, s2, s3, s4⟩ := hS'; go_simp <;> with_reducible rfl
  refine wpAnyH_take (i := 31) (v := ?_) rfl (by kernel_rfl) (by kernel_rfl) (by kernel_rfl) (fun _ _ _ h => h) (Or.inl ⟨by kernel_rfl, ?_⟩) hS6 ?_
  rotate_left
  · intro w' hS'; obtain ⟨s0, s1, s2, s3, s4⟩ := hS'; go_simp <;> with_reducible rfl
  refine wpAnyH_done (by kernel_rfl) ?_ _
  go_wp2
  go_ret
  exact ⟨by kernel_rfl, B6⟩
end Go.Proofs.YtlggbihdmabifaaGreatDoor
