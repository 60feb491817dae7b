/- What goes back, by the program: what is known, its parts; nothing that was there is written. -/
import Derived.Test.YtpjagplloljefaaGreatRA
namespace Go.Proofs.YtpjagplloljefaaGreat
open Go.RowKit
set_option linter.unusedVariables false
set_option maxRecDepth 100000

/-- six cells of one block -/
structure S6 (w : World) (b : Nat) (x0 x1 x2 x3 x4 x5 : Value) : Prop where
  c0 : w.cell? ⟨b, 0, none⟩ = some x0
  c1 : w.cell? ⟨b, 1, none⟩ = some x1
  c2 : w.cell? ⟨b, 2, none⟩ = some x2
  c3 : w.cell? ⟨b, 3, none⟩ = some x3
  c4 : w.cell? ⟨b, 4, none⟩ = some x4
  c5 : w.cell? ⟨b, 5, none⟩ = some x5
  lt : b < w.heap.size
theorem S6.later {w w1 : World} {b : Nat} {x0 x1 x2 x3 x4 x5 : Value} (h : S6 w b x0 x1 x2 x3 x4 x5) (hb : Below w.heap.size w w1) : S6 w1 b x0 x1 x2 x3 x4 x5 :=
  ⟨cell_later hb h.c0, cell_later hb h.c1, cell_later hb h.c2, cell_later hb h.c3, cell_later hb h.c4, cell_later hb h.c5, Nat.lt_of_lt_of_le h.lt hb.size⟩
theorem S6.alloc {w : World} {b : Nat} {x0 x1 x2 x3 x4 x5 : Value} (h : S6 w b x0 x1 x2 x3 x4 x5) (o : Obj) : S6 (w.alloc o) b x0 x1 x2 x3 x4 x5 := h.later ((Below.refl _ _).alloc (Nat.le_refl _) o)
theorem S6.drew {w : World} {b : Nat} {x0 x1 x2 x3 x4 x5 : Value} (h : S6 w b x0 x1 x2 x3 x4 x5) : S6 w.drew b x0 x1 x2 x3 x4 x5 := ⟨h.c0, h.c1, h.c2, h.c3, h.c4, h.c5, h.lt⟩
theorem S6.made (w : World) (b : Nat) (hb : b = w.heap.size) (x0 x1 x2 x3 x4 x5 : Value) (t : TypeId) : S6 (w.alloc (.cells #[x0, x1, x2, x3, x4, x5] t)) b x0 x1 x2 x3 x4 x5 := by subst hb; exact ⟨by simp, by simp, by simp, by simp, by simp, by simp, by simp⟩
theorem ret_b2 {p q : Bool} (h : p = q) : Ending.returned (.bool p) = .returned (.bool q) := by rw [h]
set_option maxHeartbeats 1000000 in
theorem iIsSome (wd : Int) (s1 : Bool) (a b : Int) (w : World) :
    Calls Tryz.prog 36 #[.int .i64 wd, .agg #[.bool s1, .int .i64 a, .int .i64 b]] w fun e w' => e = .returned (.bool (someS wd ⟨s1, a, b⟩)) ∧ Below w.heap.size w w' := by
  have c0 : (w.alloc (.cells #[.bool s1, .int .i64 a, .int .i64 b] 24)).cell? ⟨w.heap.size, 0, none⟩ = some (.bool s1) := by simp
  cases s1
  · go_enter Tryz.func36, Tryz.ntmps36
    go_wp2
    go_ret
    exact ⟨rfl, (by repeat (first | exact Below.refl _ _ | refine Below.drew ?_ | refine old_alloc ?_ _ | refine old_trans ?_ (by assumption)))⟩
  have H : Hid (∀ w, _) := hd (iSpanOk wd true a b)
  have hp : Hid (sokB wd true a b = someS wd ⟨true, a, b⟩) := by show _ = _; unfold sokB someS; simp
  generalize sokB wd true a b = q at *
  generalize someS wd ⟨true, a, b⟩ = r at *
  go_enter Tryz.func36, Tryz.ntmps36
  go_wp2_with fail
  refine (H.out _).mono ?_
  rintro e w1 ⟨rfl, hb1⟩
  go_wp2
  go_ret
  exact ⟨ret_b2 hp.out, (by repeat (first | exact Below.refl _ _ | refine Below.drew ?_ | refine old_alloc ?_ _ | refine old_trans ?_ (by assumption)))⟩
set_option maxHeartbeats 1000000 in
theorem iFromOn (wd lo : Int) (w : World) :
    Calls Tryz.prog 51 #[.int .i64 wd, .int .i64 lo] w fun e w' => e = .returned (.agg #[.bool true, .int .i64 lo, .int .i64 (topI wd)]) ∧ Below w.heap.size w w' := by
  have H := hd (iTop wd)
  generalize topI wd = t at *
  have N := S3.made w (w.heap.size) (by simp) (.bool false) (.int .i64 0) (.int .i64 0) 24
  go_enter Tryz.func51, Tryz.ntmps51
  go_wp2_with fail
  refine (H.out _).mono ?_
  rintro e w1 ⟨rfl, hb1⟩
  replace N := N.later hb1
  obtain ⟨⟨n0, n1, n2⟩, ⟨f0, f1, f2⟩, nz⟩ := id N
  go_wp2
  refine bodyPost_ret (v := .agg #[.bool true, .int .i64 lo, .int .i64 t]) ?_ rfl ⟨rfl, (by repeat (first | with_reducible exact Below.refl _ _ | with_reducible refine Below.drew ?_ | ((with_reducible refine Below.setCell ?_ ?_ _); rotate_left; (focus (first | (simp; done) | omega | (simp; omega)))) | with_reducible refine old_alloc ?_ _ | with_reducible refine old_trans ?_ (by with_reducible assumption)))⟩
  simp [results, Tryz.results51, go_sem, n0, n1, n2]
set_option maxHeartbeats 1000000 in
theorem iUpTo (wd hi : Int) (w : World) :
    Calls Tryz.prog 50 #[.int .i64 wd, .int .i64 hi] w fun e w' => e = .returned (.agg #[.bool true, .int .i64 (-topI wd), .int .i64 hi]) ∧ Below w.heap.size w w' := by
  have H := hd (iTop wd)
  have hb := topI_bd wd
  generalize topI wd = t at *
  have N := S3.made w (w.heap.size) (by simp) (.bool false) (.int .i64 0) (.int .i64 0) 24
  go_enter Tryz.func50, Tryz.ntmps50
  go_wp2_with fail
  refine (H.out _).mono ?_
  rintro e w1 ⟨rfl, hb1⟩
  replace N := N.later hb1
  obtain ⟨⟨n0, n1, n2⟩, ⟨f0, f1, f2⟩, nz⟩ := id N
  go_wp2
  refine bodyPost_ret (v := .agg #[.bool true, .int .i64 (-t), .int .i64 hi]) ?_ rfl ⟨rfl, (by repeat (first | with_reducible exact Below.refl _ _ | with_reducible refine Below.drew ?_ | ((with_reducible refine Below.setCell ?_ ?_ _); rotate_left; (focus (first | (simp; done) | omega | (simp; omega)))) | with_reducible refine old_alloc ?_ _ | with_reducible refine old_trans ?_ (by with_reducible assumption)))⟩
  simp [results, Tryz.results50, go_sem, n0, n1, n2]
set_option maxHeartbeats 1000000 in
theorem iIsKnown (wd : Int) (s1 s2 : Bool) (a b c d : Int) (w : World) :
    Calls Tryz.prog 140 #[.agg #[.bool s1, .int .i64 a, .int .i64 b, .bool s2, .int .i64 c, .int .i64 d], .int .i64 wd] w fun e w' => e = .returned (.bool (someS wd ⟨s1, a, b⟩ && someS wd ⟨s2, c, d⟩)) ∧ Below w.heap.size w w' := by
  have H1 := hd (iIsSome wd s1 a b)
  have H2 := hd (iIsSome wd s2 c d)
  generalize someS wd ⟨s1, a, b⟩ = q1 at *
  generalize someS wd ⟨s2, c, d⟩ = q2 at *
  have K := S6.made w _ rfl (.bool s1) (.int .i64 a) (.int .i64 b) (.bool s2) (.int .i64 c) (.int .i64 d) 45
  obtain ⟨k0, k1, k2, k3, k4, k5, kz⟩ := id K
  go_enter Tryz.func140, Tryz.ntmps140
  go_wp2_with fail
  refine (H1.out _).mono ?_
  rintro e w1 ⟨rfl, hb1⟩
  replace K := K.later hb1
  clear k0 k1 k2 k3 k4 k5 kz
  obtain ⟨k0, k1, k2, k3, k4, k5, kz⟩ := id K
  cases q1
  · go_wp2
    go_ret
    exact ⟨rfl, (by repeat (first | exact Below.refl _ _ | refine Below.drew ?_ | refine old_alloc ?_ _ | refine old_trans ?_ (by assumption)))⟩
  go_wp2_with fail
  refine (H2.out _).mono ?_
  rintro e w2 ⟨rfl, hb2⟩
  go_wp2
  go_ret
  exact ⟨ret_b2 (by simp), (by repeat (first | exact Below.refl _ _ | refine Below.drew ?_ | refine old_alloc ?_ _ | refine old_trans ?_ (by assumption)))⟩
def fromS (wd : Int) (x : Sp) : Sp := meetS wd x ⟨true, 0, topI wd⟩
set_option maxHeartbeats 4000000 in
theorem iSizesK (wd : Int) (s1 s2 : Bool) (a b c d : Int) (w : World) :
    Calls Tryz.prog 143 #[.agg #[.bool s1, .int .i64 a, .int .i64 b, .bool s2, .int .i64 c, .int .i64 d], .int .i64 wd] w fun e w' => e = .returned (.agg #[.bool (fromS wd ⟨s1, a, b⟩).s, .int .i64 (fromS wd ⟨s1, a, b⟩).lo, .int .i64 (fromS wd ⟨s1, a, b⟩).hi]) ∧ Below w.heap.size w w' := by
  have H1 := hd (iFromOn wd 0)
  have H2 := hd (iMeetS wd s1 true a b 0 (topI wd))
  rw [show meetS wd ⟨s1, a, b⟩ ⟨true, 0, topI wd⟩ = fromS wd ⟨s1, a, b⟩ from rfl] at H2
  generalize fromS wd ⟨s1, a, b⟩ = r at *
  obtain ⟨r, x, y⟩ := r
  dsimp only at *
  generalize topI wd = t at *
  have K := (S6.made w _ rfl (.bool s1) (.int .i64 a) (.int .i64 b) (.bool s2) (.int .i64 c) (.int .i64 d) 45).alloc (.cells #[.bool false, .int .i64 0, .int .i64 0] 24)
  have N := S3.made (w.alloc (.cells #[.bool s1, .int .i64 a, .int .i64 b, .bool s2, .int .i64 c, .int .i64 d] 45)) (w.heap.size + 1) (by simp) (.bool false) (.int .i64 0) (.int .i64 0) 24
  obtain ⟨k0, k1, k2, k3, k4, k5, kz⟩ := id K
  have C1 := hd (fun w' (hS : w'.cell? ⟨w.heap.size, 0, none⟩ = some (.bool s1) ∧ w'.cell? ⟨w.heap.size, 1, none⟩ = some (.int .i64 a) ∧ w'.cell? ⟨w.heap.size, 2, none⟩ = some (.int .i64 b) ∧ w'.cell? ⟨w.heap.size, 3, none⟩ = some (.bool s2) ∧ w'.cell? ⟨w.heap.size, 4, none⟩ = some (.int .i64 c) ∧ w'.cell? ⟨w.heap.size, 5, none⟩ = some (.int .i64 d)) => (H1.out w').mono (fun e w'' (k : _ ∧ _) => (⟨k, ⟨cell_later k.2 hS.1, cell_later k.2 hS.2.1, cell_later k.2 hS.2.2.1, cell_later k.2 hS.2.2.2.1, cell_later k.2 hS.2.2.2.2.1, cell_later k.2 hS.2.2.2.2.2⟩⟩ : (_ ∧ _) ∧ (w''.cell? ⟨w.heap.size, 0, none⟩ = some (.bool s1) ∧ w''.cell? ⟨w.heap.size, 1, none⟩ = some (.int .i64 a) ∧ w''.cell? ⟨w.heap.size, 2, none⟩ = some (.int .i64 b) ∧ w''.cell? ⟨w.heap.size, 3, none⟩ = some (.bool s2) ∧ w''.cell? ⟨w.heap.size, 4, none⟩ = some (.int .i64 c) ∧ w''.cell? ⟨w.heap.size, 5, none⟩ = some (.int .i64 d)))))
  have C2 := hd (fun w' (hS : w'.cell? ⟨w.heap.size, 0, none⟩ = some (.bool s1) ∧ w'.cell? ⟨w.heap.size, 1, none⟩ = some (.int .i64 a) ∧ w'.cell? ⟨w.heap.size, 2, none⟩ = some (.int .i64 b) ∧ w'.cell? ⟨w.heap.size, 3, none⟩ = some (.bool s2) ∧ w'.cell? ⟨w.heap.size, 4, none⟩ = some (.int .i64 c) ∧ w'.cell? ⟨w.heap.size, 5, none⟩ = some (.int .i64 d)) => (H2.out w').mono (fun e w'' (k : _ ∧ _) => (⟨k, ⟨cell_later k.2 hS.1, cell_later k.2 hS.2.1, cell_later k.2 hS.2.2.1, cell_later k.2 hS.2.2.2.1, cell_later k.2 hS.2.2.2.2.1, cell_later k.2 hS.2.2.2.2.2⟩⟩ : (_ ∧ _) ∧ (w''.cell? ⟨w.heap.size, 0, none⟩ = some (.bool s1) ∧ w''.cell? ⟨w.heap.size, 1, none⟩ = some (.int .i64 a) ∧ w''.cell? ⟨w.heap.size, 2, none⟩ = some (.int .i64 b) ∧ w''.cell? ⟨w.heap.size, 3, none⟩ = some (.bool s2) ∧ w''.cell? ⟨w.heap.size, 4, none⟩ = some (.int .i64 c) ∧ w''.cell? ⟨w.heap.size, 5, none⟩ = some (.int .i64 d)))))
  clear H1 H2
  have z1 : w.heap.size ≠ w.heap.size + 1 := by omega
  have z2 : w.heap.size + 1 ≠ w.heap.size := by omega
  go_enter Tryz.func143, Tryz.ntmps143
  go_wp2_with fail
  go_region_held3 (fun w' => w'.cell? ⟨w.heap.size, 0, none⟩ = some (.bool s1) ∧ w'.cell? ⟨w.heap.size, 1, none⟩ = some (.int .i64 a) ∧ w'.cell? ⟨w.heap.size, 2, none⟩ = some (.int .i64 b) ∧ w'.cell? ⟨w.heap.size, 3, none⟩ = some (.bool s2) ∧ w'.cell? ⟨w.heap.size, 4, none⟩ = some (.int .i64 c) ∧ w'.cell? ⟨w.heap.size, 5, none⟩ = some (.int .i64 d)) (go_keep) (first | (go_at_call 51; refine (C1.out _ (by assumption)).mono ?_; rintro e wx ⟨⟨rfl, hbx⟩, hcx⟩; have N := (by first | exact N.later hbx | exact N.drew.later hbx : S3 wx _ _ _ _); obtain ⟨⟨N0, N1, N2⟩, ⟨Nf, Ng, Nh⟩, Nz⟩ := id N) | (go_at_call 23; refine (C2.out _ (by assumption)).mono ?_; rintro e wx ⟨⟨rfl, hbx⟩, hcx⟩; have N := (by first | exact N.later hbx | exact N.drew.later hbx : S3 wx _ _ _ _); obtain ⟨⟨N0, N1, N2⟩, ⟨Nf, Ng, Nh⟩, Nz⟩ := id N))
  all_goals
    go_wp2
    refine bodyPost_ret (v := .agg #[.bool r, .int .i64 x, .int .i64 y]) ?_ rfl ⟨rfl, (by repeat (first | with_reducible exact Below.refl _ _ | with_reducible refine Below.drew ?_ | ((with_reducible refine Below.setCell ?_ ?_ _); rotate_left; (focus (first | (simp; done) | omega | (simp; omega)))) | with_reducible refine old_alloc ?_ _ | with_reducible refine old_trans ?_ (by with_reducible assumption)))⟩
    simp [results, Tryz.results143, go_sem, N0, N1, N2]
set_option maxHeartbeats 4000000 in
theorem iBothSigns (wd : Int) (s1 : Bool) (a b : Int) (w : World) :
    Calls Tryz.prog 142 #[.int .i64 wd, .agg #[.bool s1, .int .i64 a, .int .i64 b]] w fun e w' => e = .returned (.tuple #[.agg #[.bool s1, .int .i64 a, .int .i64 b], .agg #[.bool (negS wd ⟨s1, a, b⟩).s, .int .i64 (negS wd ⟨s1, a, b⟩).lo, .int .i64 (negS wd ⟨s1, a, b⟩).hi]]) ∧ Below w.heap.size w w' := by
  have H2 := hd (iNegS wd s1 a b)
  generalize negS wd ⟨s1, a, b⟩ = r at *
  obtain ⟨r, x, y⟩ := r
  dsimp only at *
  have N := (S3.made (w.alloc (.cells #[.bool s1, .int .i64 a, .int .i64 b] 24)) (w.heap.size + 1) (by simp) (.bool false) (.int .i64 0) (.int .i64 0) 24).alloc (.cells #[.bool false, .int .i64 0, .int .i64 0] 24)
  have M := S3.made ((w.alloc (.cells #[.bool s1, .int .i64 a, .int .i64 b] 24)).alloc (.cells #[.bool false, .int .i64 0, .int .i64 0] 24)) (w.heap.size + 1 + 1) (by simp) (.bool false) (.int .i64 0) (.int .i64 0) 24
  have K := ((S3.made w _ rfl (.bool s1) (.int .i64 a) (.int .i64 b) 24).alloc (.cells #[.bool false, .int .i64 0, .int .i64 0] 24)).alloc (.cells #[.bool false, .int .i64 0, .int .i64 0] 24)
  obtain ⟨⟨k0, k1, k2⟩, -, kz⟩ := id K
  have C2 := hd (fun w' (hS : w'.cell? ⟨w.heap.size, 0, none⟩ = some (.bool s1) ∧ w'.cell? ⟨w.heap.size, 1, none⟩ = some (.int .i64 a) ∧ w'.cell? ⟨w.heap.size, 2, none⟩ = some (.int .i64 b)) => (H2.out w').mono (fun e w'' (k : _ ∧ _) => (⟨k, ⟨cell_later k.2 hS.1, cell_later k.2 hS.2.1, cell_later k.2 hS.2.2⟩⟩ : (_ ∧ _) ∧ (w''.cell? ⟨w.heap.size, 0, none⟩ = some (.bool s1) ∧ w''.cell? ⟨w.heap.size, 1, none⟩ = some (.int .i64 a) ∧ w''.cell? ⟨w.heap.size, 2, none⟩ = some (.int .i64 b)))))
  clear H2
  have z1 : w.heap.size ≠ w.heap.size + 1 := by omega
  have z2 : w.heap.size + 1 ≠ w.heap.size := by omega
  have z3 : w.heap.size ≠ w.heap.size + 1 + 1 := by omega
  have z4 : w.heap.size + 1 + 1 ≠ w.heap.size := by omega
  have z5 : w.heap.size + 1 ≠ w.heap.size + 1 + 1 := by omega
  have z6 : w.heap.size + 1 + 1 ≠ w.heap.size + 1 := by omega
  go_enter Tryz.func142, Tryz.ntmps142
  go_wp2_with fail
  go_region_held3 (fun w' => w'.cell? ⟨w.heap.size, 0, none⟩ = some (.bool s1) ∧ w'.cell? ⟨w.heap.size, 1, none⟩ = some (.int .i64 a) ∧ w'.cell? ⟨w.heap.size, 2, none⟩ = some (.int .i64 b)) (go_keep) (first | (go_at_call 25; refine (C2.out _ (by assumption)).mono ?_; rintro e wx ⟨⟨rfl, hbx⟩, hcx⟩; have N := (by first | exact N.later hbx | exact N.drew.later hbx : S3 wx _ _ _ _); obtain ⟨⟨N0, N1, N2⟩, ⟨Nf, Ng, Nh⟩, Nz⟩ := id N; have M := (by first | exact M.later hbx | exact M.drew.later hbx : S3 wx _ _ _ _); obtain ⟨⟨M0, M1, M2⟩, ⟨Mf, Mg, Mh⟩, Mz⟩ := id M))
  all_goals
    go_wp2
    refine bodyPost_ret (v := .tuple #[.agg #[.bool s1, .int .i64 a, .int .i64 b], .agg #[.bool r, .int .i64 x, .int .i64 y]]) ?_ rfl ⟨rfl, (by repeat (first | with_reducible exact Below.refl _ _ | with_reducible refine Below.drew ?_ | ((with_reducible refine Below.setCell ?_ ?_ _); rotate_left; (focus (first | (simp; done) | omega | (simp; omega)))) | with_reducible refine old_alloc ?_ _ | with_reducible refine old_trans ?_ (by with_reducible assumption)))⟩
    simp [results, Tryz.results142, go_sem, N0, N1, N2, M0, M1, M2]
end Go.Proofs.YtpjagplloljefaaGreat
