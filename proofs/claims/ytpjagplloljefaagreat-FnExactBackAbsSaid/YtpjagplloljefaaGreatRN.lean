/- What goes back, by the program: what is met; nothing that was there is written. -/
import Derived.Test.YtpjagplloljefaaGreatRJ0
namespace Go.Proofs.YtpjagplloljefaaGreat
open Go.RowKit
set_option linter.unusedVariables false
set_option maxRecDepth 100000

attribute [local go_sem] eql_span
theorem mk_sizeBack (s1 s2 : Bool) (a b c d : Int) (w : World) : (Go.method 294 47 (.agg #[.bool s1, .int .i64 a, .int .i64 b, .bool s2, .int .i64 c, .int .i64 d]) "loop.example/pinfold/impl.isKnown").run Tryz.prog w = .ok (140, .agg #[.bool s1, .int .i64 a, .int .i64 b, .bool s2, .int .i64 c, .int .i64 d]) w := by kernel_rfl
theorem mp_sizeBack (s1 s2 : Bool) (a b c d : Int) (w : World) : (Go.method 294 47 (.agg #[.bool s1, .int .i64 a, .int .i64 b, .bool s2, .int .i64 c, .int .i64 d]) "loop.example/pinfold/impl.parts").run Tryz.prog w = .ok (141, .agg #[.bool s1, .int .i64 a, .int .i64 b, .bool s2, .int .i64 c, .int .i64 d]) w := by kernel_rfl
set_option maxHeartbeats 4000000 in
theorem iMet_sizeBack (wd : Int) (s1 s2 : Bool) (a b c d : Int) (s3 : Bool) (f g : Int) (w : World) :
    Calls Tryz.prog 52 #[.int .i64 wd, .iface 47 (.agg #[.bool s1, .int .i64 a, .int .i64 b, .bool s2, .int .i64 c, .int .i64 d]), .agg #[.bool s3, .int .i64 f, .int .i64 g]] w fun e w' => e = .returned (.tuple #[.agg #[.bool (metK (someS wd ⟨s1, a, b⟩ && someS wd ⟨s2, c, d⟩) wd ⟨s3, f, g⟩ (fromS wd ⟨s1, a, b⟩) (negS wd (fromS wd ⟨s1, a, b⟩))).s, .int .i64 (metK (someS wd ⟨s1, a, b⟩ && someS wd ⟨s2, c, d⟩) wd ⟨s3, f, g⟩ (fromS wd ⟨s1, a, b⟩) (negS wd (fromS wd ⟨s1, a, b⟩))).lo, .int .i64 (metK (someS wd ⟨s1, a, b⟩ && someS wd ⟨s2, c, d⟩) wd ⟨s3, f, g⟩ (fromS wd ⟨s1, a, b⟩) (negS wd (fromS wd ⟨s1, a, b⟩))).hi], .agg #[.bool (metK (someS wd ⟨s1, a, b⟩ && someS wd ⟨s2, c, d⟩) wd ⟨s3, f, g⟩ (negS wd (fromS wd ⟨s1, a, b⟩)) (fromS wd ⟨s1, a, b⟩)).s, .int .i64 (metK (someS wd ⟨s1, a, b⟩ && someS wd ⟨s2, c, d⟩) wd ⟨s3, f, g⟩ (negS wd (fromS wd ⟨s1, a, b⟩)) (fromS wd ⟨s1, a, b⟩)).lo, .int .i64 (metK (someS wd ⟨s1, a, b⟩ && someS wd ⟨s2, c, d⟩) wd ⟨s3, f, g⟩ (negS wd (fromS wd ⟨s1, a, b⟩)) (fromS wd ⟨s1, a, b⟩)).hi]]) ∧ Below w.heap.size w w' := by
  have m1 := mk_sizeBack s1 s2 a b c d
  have m2 := mp_sizeBack s1 s2 a b c d
  have HK := hd (iIsKnown wd s1 s2 a b c d)
  have HD := hd (iDiv_sizeBack s1 s2 a b c d s3 f g)
  have HP := hd (iSizeP wd s1 s2 a b c d)
  generalize (someS wd ⟨s1, a, b⟩ && someS wd ⟨s2, c, d⟩) = k at *
  generalize negS wd (fromS wd ⟨s1, a, b⟩) = Q at *
  generalize fromS wd ⟨s1, a, b⟩ = P at *
  obtain ⟨p1, p2, p3⟩ := P
  obtain ⟨q1, q2, q3⟩ := Q
  dsimp only at HP
  have HM1 := hd (iMeetS wd s3 p1 f g p2 p3)
  have HM2 := hd (iMeetS wd s3 q1 f g q2 q3)
  unfold metK
  generalize meetS wd ⟨s3, f, g⟩ ⟨p1, p2, p3⟩ = U at *
  generalize meetS wd ⟨s3, f, g⟩ ⟨q1, q2, q3⟩ = V at *
  obtain ⟨u1, u2, u3⟩ := U
  obtain ⟨v1, v2, v3⟩ := V
  dsimp only at HM1 HM2
  have K := (((S3.made w _ rfl (.bool s3) (.int .i64 f) (.int .i64 g) 24).alloc (.cells #[.bool false, .int .i64 0, .int .i64 0] 24)).alloc (.cells #[.bool false, .int .i64 0, .int .i64 0] 24)).alloc (.cells #[.bool true, .int .i64 0, .int .i64 0] 24)
  have N := ((S3.made (w.alloc (.cells #[.bool s3, .int .i64 f, .int .i64 g] 24)) (w.heap.size + 1) (by simp) (.bool false) (.int .i64 0) (.int .i64 0) 24).alloc (.cells #[.bool false, .int .i64 0, .int .i64 0] 24)).alloc (.cells #[.bool true, .int .i64 0, .int .i64 0] 24)
  have M := (S3.made ((w.alloc (.cells #[.bool s3, .int .i64 f, .int .i64 g] 24)).alloc (.cells #[.bool false, .int .i64 0, .int .i64 0] 24)) (w.heap.size + 1 + 1) (by simp) (.bool false) (.int .i64 0) (.int .i64 0) 24).alloc (.cells #[.bool true, .int .i64 0, .int .i64 0] 24)
  have J := S3.made (((w.alloc (.cells #[.bool s3, .int .i64 f, .int .i64 g] 24)).alloc (.cells #[.bool false, .int .i64 0, .int .i64 0] 24)).alloc (.cells #[.bool false, .int .i64 0, .int .i64 0] 24)) (w.heap.size + 1 + 1 + 1) (by simp) (.bool true) (.int .i64 0) (.int .i64 0) 24
  have z1 : w.heap.size ≠ w.heap.size + 1 := by omega
  have z2 : w.heap.size + 1 ≠ w.heap.size := by omega
  have z3 : w.heap.size ≠ w.heap.size + 1 + 1 := by omega
  have z4 : w.heap.size + 1 + 1 ≠ w.heap.size := by omega
  have z5 : w.heap.size + 1 ≠ w.heap.size + 1 + 1 := by omega
  have z6 : w.heap.size + 1 + 1 ≠ w.heap.size + 1 := by omega
  have CK := hd (fun w' (hS : w'.cell? ⟨w.heap.size, 0, none⟩ = some (.bool s3) ∧ w'.cell? ⟨w.heap.size, 1, none⟩ = some (.int .i64 f) ∧ w'.cell? ⟨w.heap.size, 2, none⟩ = some (.int .i64 g) ∧ w'.cell? ⟨w.heap.size + 1 + 1 + 1, 0, none⟩ = some (.bool true) ∧ w'.cell? ⟨w.heap.size + 1 + 1 + 1, 1, none⟩ = some (.int .i64 0) ∧ w'.cell? ⟨w.heap.size + 1 + 1 + 1, 2, none⟩ = some (.int .i64 0)) => (HK.out w').mono (fun e w'' (k : _ ∧ _) => (⟨k, ⟨cell_later k.2 hS.1, cell_later k.2 hS.2.1, cell_later k.2 hS.2.2.1, cell_later k.2 hS.2.2.2.1, cell_later k.2 hS.2.2.2.2.1, cell_later k.2 hS.2.2.2.2.2⟩⟩ : (_ ∧ _) ∧ (w''.cell? ⟨w.heap.size, 0, none⟩ = some (.bool s3) ∧ w''.cell? ⟨w.heap.size, 1, none⟩ = some (.int .i64 f) ∧ w''.cell? ⟨w.heap.size, 2, none⟩ = some (.int .i64 g) ∧ w''.cell? ⟨w.heap.size + 1 + 1 + 1, 0, none⟩ = some (.bool true) ∧ w''.cell? ⟨w.heap.size + 1 + 1 + 1, 1, none⟩ = some (.int .i64 0) ∧ w''.cell? ⟨w.heap.size + 1 + 1 + 1, 2, none⟩ = some (.int .i64 0)))))
  have CD := hd (fun w' (hS : w'.cell? ⟨w.heap.size, 0, none⟩ = some (.bool s3) ∧ w'.cell? ⟨w.heap.size, 1, none⟩ = some (.int .i64 f) ∧ w'.cell? ⟨w.heap.size, 2, none⟩ = some (.int .i64 g) ∧ w'.cell? ⟨w.heap.size + 1 + 1 + 1, 0, none⟩ = some (.bool true) ∧ w'.cell? ⟨w.heap.size + 1 + 1 + 1, 1, none⟩ = some (.int .i64 0) ∧ w'.cell? ⟨w.heap.size + 1 + 1 + 1, 2, none⟩ = some (.int .i64 0)) => (HD.out w').mono (fun e w'' (k : _ ∧ _) => (⟨k, ⟨cell_later k.2 hS.1, cell_later k.2 hS.2.1, cell_later k.2 hS.2.2.1, cell_later k.2 hS.2.2.2.1, cell_later k.2 hS.2.2.2.2.1, cell_later k.2 hS.2.2.2.2.2⟩⟩ : (_ ∧ _) ∧ (w''.cell? ⟨w.heap.size, 0, none⟩ = some (.bool s3) ∧ w''.cell? ⟨w.heap.size, 1, none⟩ = some (.int .i64 f) ∧ w''.cell? ⟨w.heap.size, 2, none⟩ = some (.int .i64 g) ∧ w''.cell? ⟨w.heap.size + 1 + 1 + 1, 0, none⟩ = some (.bool true) ∧ w''.cell? ⟨w.heap.size + 1 + 1 + 1, 1, none⟩ = some (.int .i64 0) ∧ w''.cell? ⟨w.heap.size + 1 + 1 + 1, 2, none⟩ = some (.int .i64 0)))))
  obtain ⟨⟨K0, K1, K2⟩, -, Kz⟩ := id K
  obtain ⟨⟨J0, J1, J2⟩, -, Jz⟩ := id J
  go_enter Tryz.func52, Tryz.ntmps52
  go_upto_region 2 with fail
  go_cut [22] (fun s wx => s = .bool (!k) ∧ S3 wx (w.heap.size) (.bool s3) (.int .i64 f) (.int .i64 g) ∧ S3 wx (w.heap.size + 1) (.bool false) (.int .i64 0) (.int .i64 0) ∧ S3 wx (w.heap.size + 1 + 1) (.bool false) (.int .i64 0) (.int .i64 0) ∧ Below w.heap.size w wx)
  case first =>
    clear HM1 HM2 HP m2
    have KK := K
    cases k
    · go_wp2_with fail
      refine wp_region_held_drew (S := fun w' => w'.cell? ⟨w.heap.size, 0, none⟩ = some (.bool s3) ∧ w'.cell? ⟨w.heap.size, 1, none⟩ = some (.int .i64 f) ∧ w'.cell? ⟨w.heap.size, 2, none⟩ = some (.int .i64 g) ∧ w'.cell? ⟨w.heap.size + 1 + 1 + 1, 0, none⟩ = some (.bool true) ∧ w'.cell? ⟨w.heap.size + 1 + 1 + 1, 1, none⟩ = some (.int .i64 0) ∧ w'.cell? ⟨w.heap.size + 1 + 1 + 1, 2, none⟩ = some (.int .i64 0)) rfl ⟨K0, K1, K2, J0, J1, J2⟩ ?_
      intro hS
      refine wpAnyH_take (i := 0) (v := ?_) rfl (by kernel_rfl) (by kernel_rfl) (by kernel_rfl) (fun _ _ _ h => h) (Or.inl ⟨by rfl, ?_⟩) hS ?_
      rotate_left
      · intro w' hS'; obtain ⟨s0, s1', s2', s3', s4', s5'⟩ := hS'; go_simp <;> with_reducible rfl
      refine wpAnyH_take (i := 1) (v := ?_) rfl (by kernel_rfl) (by kernel_rfl) (by kernel_rfl) (fun _ _ _ h => h) (Or.inl ⟨by rfl, ?_⟩) hS ?_
      rotate_left
      · intro w' hS'; obtain ⟨s0, s1', s2', s3', s4', s5'⟩ := hS'; go_simp <;> with_reducible rfl
      refine wpAnyH_ready (rs := [2]) (by kernel_rfl) (by simp) ?_
      refine AllReadyH.cons rfl (fun K hK => ?_) AllReadyH.nil
      go_simp
      refine (CK.out _ hS).mono ?_
      rintro e wx ⟨⟨rfl, hbx⟩, hcx⟩
      refine hK.out _ _ hcx ?_
      intro hS4
      clear hK K
      have N := N.drew.later hbx
      have M := M.drew.later hbx
      have K := KK.drew.later hbx
      refine wpAnyH_take (i := 3) (v := ?_) rfl (by kernel_rfl) (by kernel_rfl) (by kernel_rfl) (fun _ _ _ h => h) (Or.inl ⟨by rfl, ?_⟩) hS4 ?_
      rotate_left
      · intro w' hS'; obtain ⟨s0, s1', s2', s3', s4', s5'⟩ := hS'; go_simp <;> with_reducible rfl
      refine wpAnyH_take (i := 4) (v := ?_) rfl (by kernel_rfl) (by kernel_rfl) (by kernel_rfl) (fun _ _ _ h => h) (Or.inl ⟨by rfl, ?_⟩) hS4 ?_
      rotate_left
      · intro w' hS'; obtain ⟨s0, s1', s2', s3', s4', s5'⟩ := hS'; go_simp <;> with_reducible rfl
      refine wpAnyH_take (i := 5) (v := undef) rfl (by kernel_rfl) (by kernel_rfl) (by kernel_rfl) (fun _ _ _ h => h) (Or.inr ⟨by rfl, rfl⟩) hS4 ?_
      refine wpAnyH_take (i := 6) (v := undef) rfl (by kernel_rfl) (by kernel_rfl) (by kernel_rfl) (fun _ _ _ h => h) (Or.inr ⟨by rfl, rfl⟩) hS4 ?_
      refine wpAnyH_take (i := 7) (v := undef) rfl (by kernel_rfl) (by kernel_rfl) (by kernel_rfl) (fun _ _ _ h => h) (Or.inr ⟨by rfl, rfl⟩) hS4 ?_
      refine wpAnyH_take (i := 8) (v := undef) rfl (by kernel_rfl) (by kernel_rfl) (by kernel_rfl) (fun _ _ _ h => h) (Or.inr ⟨by rfl, rfl⟩) hS4 ?_
      refine wpAnyH_take (i := 9) (v := undef) rfl (by kernel_rfl) (by kernel_rfl) (by kernel_rfl) (fun _ _ _ h => h) (Or.inr ⟨by rfl, rfl⟩) hS4 ?_
      refine wpAnyH_take (i := 10) (v := ?_) rfl (by kernel_rfl) (by kernel_rfl) (by kernel_rfl) (fun _ _ _ h => h) (Or.inl ⟨by rfl, ?_⟩) hS4 ?_
      rotate_left
      · intro w' hS'; obtain ⟨s0, s1', s2', s3', s4', s5'⟩ := hS'; go_simp <;> with_reducible rfl
      refine wpAnyH_done (by kernel_rfl) ?_ _
      go_wp2_with fail
      go_meet
      exact ⟨rfl, (by first | exact K | exact K.drew), (by first | exact N | exact N.drew), (by first | exact M | exact M.drew), (by repeat (first | with_reducible exact Below.refl _ _ | with_reducible refine Below.drew ?_ | ((with_reducible refine Below.setCell ?_ ?_ _); rotate_left; (focus (first | (simp; done) | omega | (simp; omega)))) | with_reducible refine old_alloc ?_ _ | with_reducible refine old_trans ?_ (by with_reducible assumption)))⟩
    · go_wp2_with fail
      go_region_with (first | (go_at_call 140; refine (HK.out _).mono ?_; rintro e wx ⟨rfl, hbx⟩; have N := (by first | exact N.later hbx | exact N.drew.later hbx : S3 wx _ _ _ _); have M := (by first | exact M.later hbx | exact M.drew.later hbx : S3 wx _ _ _ _); have K := (by first | exact K.later hbx | exact K.drew.later hbx : S3 wx _ _ _ _); have J := (by first | exact J.later hbx | exact J.drew.later hbx : S3 wx _ _ _ _); obtain ⟨⟨K0, K1, K2⟩, -, Kz⟩ := id K; obtain ⟨⟨J0, J1, J2⟩, -, Jz⟩ := id J) | (go_at_call 62; refine (HD.out _).mono ?_; rintro e wx ⟨rfl, hbx⟩; have N := (by first | exact N.later hbx | exact N.drew.later hbx : S3 wx _ _ _ _); have M := (by first | exact M.later hbx | exact M.drew.later hbx : S3 wx _ _ _ _); have K := (by first | exact K.later hbx | exact K.drew.later hbx : S3 wx _ _ _ _); have J := (by first | exact J.later hbx | exact J.drew.later hbx : S3 wx _ _ _ _); obtain ⟨⟨K0, K1, K2⟩, -, Kz⟩ := id K; obtain ⟨⟨J0, J1, J2⟩, -, Jz⟩ := id J))
      all_goals
        go_wp2_with fail
        go_meet
        exact ⟨rfl, (by first | exact K | exact K.drew), (by first | exact N | exact N.drew), (by first | exact M | exact M.drew), (by repeat (first | with_reducible exact Below.refl _ _ | with_reducible refine Below.drew ?_ | ((with_reducible refine Below.setCell ?_ ?_ _); rotate_left; (focus (first | (simp; done) | omega | (simp; omega)))) | with_reducible refine old_alloc ?_ _ | with_reducible refine old_trans ?_ (by with_reducible assumption)))⟩
  case rest =>
    obtain ⟨hs, K, N, M, hB⟩ := hcut
    subst hs
    clear CK CD HK HD J J0 J1 J2 Jz K0 K1 K2 Kz m1
    cases k
    · obtain ⟨⟨N0, N1, N2⟩, ⟨Nf, Ng, Nh⟩, Nz⟩ := id N
      obtain ⟨⟨M0, M1, M2⟩, ⟨Mf, Mg, Mh⟩, Mz⟩ := id M
      go_wp2
      refine bodyPost_ret (v := .tuple #[.agg #[.bool false, .int .i64 0, .int .i64 0], .agg #[.bool false, .int .i64 0, .int .i64 0]]) ?_ rfl ⟨rfl, (by repeat (first | with_reducible exact hB | with_reducible exact Below.refl _ _ | with_reducible refine Below.drew ?_ | ((with_reducible refine Below.setCell ?_ ?_ _); rotate_left; (focus (first | (simp; done) | omega | (simp; omega)))) | with_reducible refine old_alloc ?_ _ | with_reducible refine old_trans ?_ (by with_reducible assumption)))⟩
      simp [results, Tryz.results52, go_sem, N0, N1, N2, M0, M1, M2]
    go_wp2_with fail
    refine (HP.out _).mono ?_
    rintro e w2 ⟨rfl, hb2⟩
    have hw2 : w.heap.size + 1 + 1 < w2.heap.size := Nat.lt_of_lt_of_le M.lt hb2.size
    replace hB := old_trans hB hb2
    have L := (S3.made w2 _ rfl (.bool p1) (.int .i64 p2) (.int .i64 p3) 24).alloc (.cells #[.bool q1, .int .i64 q2, .int .i64 q3] 24)
    have O := S3.made (w2.alloc (.cells #[.bool p1, .int .i64 p2, .int .i64 p3] 24)) (w2.heap.size + 1) (by simp) (.bool q1) (.int .i64 q2) (.int .i64 q3) 24
    replace K := ((K.later hb2).alloc (.cells #[.bool p1, .int .i64 p2, .int .i64 p3] 24)).alloc (.cells #[.bool q1, .int .i64 q2, .int .i64 q3] 24)
    replace N := ((N.later hb2).alloc (.cells #[.bool p1, .int .i64 p2, .int .i64 p3] 24)).alloc (.cells #[.bool q1, .int .i64 q2, .int .i64 q3] 24)
    replace M := ((M.later hb2).alloc (.cells #[.bool p1, .int .i64 p2, .int .i64 p3] 24)).alloc (.cells #[.bool q1, .int .i64 q2, .int .i64 q3] 24)
    replace hB := old_alloc (old_alloc hB (.cells #[.bool p1, .int .i64 p2, .int .i64 p3] 24)) (.cells #[.bool q1, .int .i64 q2, .int .i64 q3] 24)
    go_wp2_with fail
    generalize (w2.alloc (.cells #[.bool p1, .int .i64 p2, .int .i64 p3] 24)).alloc (.cells #[.bool q1, .int .i64 q2, .int .i64 q3] 24) = w3 at *
    generalize w2.heap.size = bp at *
    clear hb2
    have D1 := hd (fun w' (hS : w'.cell? ⟨w.heap.size, 0, none⟩ = some (.bool s3) ∧ w'.cell? ⟨w.heap.size, 1, none⟩ = some (.int .i64 f) ∧ w'.cell? ⟨w.heap.size, 2, none⟩ = some (.int .i64 g) ∧ w'.cell? ⟨bp, 0, none⟩ = some (.bool p1) ∧ w'.cell? ⟨bp, 1, none⟩ = some (.int .i64 p2) ∧ w'.cell? ⟨bp, 2, none⟩ = some (.int .i64 p3) ∧ w'.cell? ⟨bp + 1, 0, none⟩ = some (.bool q1) ∧ w'.cell? ⟨bp + 1, 1, none⟩ = some (.int .i64 q2) ∧ w'.cell? ⟨bp + 1, 2, none⟩ = some (.int .i64 q3)) => (HM1.out w').mono (fun e w'' (k : _ ∧ _) => (⟨k, ⟨cell_later k.2 hS.1, cell_later k.2 hS.2.1, cell_later k.2 hS.2.2.1, cell_later k.2 hS.2.2.2.1, cell_later k.2 hS.2.2.2.2.1, cell_later k.2 hS.2.2.2.2.2.1, cell_later k.2 hS.2.2.2.2.2.2.1, cell_later k.2 hS.2.2.2.2.2.2.2.1, cell_later k.2 hS.2.2.2.2.2.2.2.2⟩⟩ : (_ ∧ _) ∧ (w''.cell? ⟨w.heap.size, 0, none⟩ = some (.bool s3) ∧ w''.cell? ⟨w.heap.size, 1, none⟩ = some (.int .i64 f) ∧ w''.cell? ⟨w.heap.size, 2, none⟩ = some (.int .i64 g) ∧ w''.cell? ⟨bp, 0, none⟩ = some (.bool p1) ∧ w''.cell? ⟨bp, 1, none⟩ = some (.int .i64 p2) ∧ w''.cell? ⟨bp, 2, none⟩ = some (.int .i64 p3) ∧ w''.cell? ⟨bp + 1, 0, none⟩ = some (.bool q1) ∧ w''.cell? ⟨bp + 1, 1, none⟩ = some (.int .i64 q2) ∧ w''.cell? ⟨bp + 1, 2, none⟩ = some (.int .i64 q3)))))
    have D2 := hd (fun w' (hS : w'.cell? ⟨w.heap.size, 0, none⟩ = some (.bool s3) ∧ w'.cell? ⟨w.heap.size, 1, none⟩ = some (.int .i64 f) ∧ w'.cell? ⟨w.heap.size, 2, none⟩ = some (.int .i64 g) ∧ w'.cell? ⟨bp, 0, none⟩ = some (.bool p1) ∧ w'.cell? ⟨bp, 1, none⟩ = some (.int .i64 p2) ∧ w'.cell? ⟨bp, 2, none⟩ = some (.int .i64 p3) ∧ w'.cell? ⟨bp + 1, 0, none⟩ = some (.bool q1) ∧ w'.cell? ⟨bp + 1, 1, none⟩ = some (.int .i64 q2) ∧ w'.cell? ⟨bp + 1, 2, none⟩ = some (.int .i64 q3)) => (HM2.out w').mono (fun e w'' (k : _ ∧ _) => (⟨k, ⟨cell_later k.2 hS.1, cell_later k.2 hS.2.1, cell_later k.2 hS.2.2.1, cell_later k.2 hS.2.2.2.1, cell_later k.2 hS.2.2.2.2.1, cell_later k.2 hS.2.2.2.2.2.1, cell_later k.2 hS.2.2.2.2.2.2.1, cell_later k.2 hS.2.2.2.2.2.2.2.1, cell_later k.2 hS.2.2.2.2.2.2.2.2⟩⟩ : (_ ∧ _) ∧ (w''.cell? ⟨w.heap.size, 0, none⟩ = some (.bool s3) ∧ w''.cell? ⟨w.heap.size, 1, none⟩ = some (.int .i64 f) ∧ w''.cell? ⟨w.heap.size, 2, none⟩ = some (.int .i64 g) ∧ w''.cell? ⟨bp, 0, none⟩ = some (.bool p1) ∧ w''.cell? ⟨bp, 1, none⟩ = some (.int .i64 p2) ∧ w''.cell? ⟨bp, 2, none⟩ = some (.int .i64 p3) ∧ w''.cell? ⟨bp + 1, 0, none⟩ = some (.bool q1) ∧ w''.cell? ⟨bp + 1, 1, none⟩ = some (.int .i64 q2) ∧ w''.cell? ⟨bp + 1, 2, none⟩ = some (.int .i64 q3)))))
    clear HM1 HM2
    obtain ⟨⟨K0, K1, K2⟩, -, Kz⟩ := id K
    obtain ⟨⟨L0, L1, L2⟩, -, Lz⟩ := id L
    obtain ⟨⟨O0, O1, O2⟩, -, Oz⟩ := id O
    have y9 : bp ≠ w.heap.size := by omega
    have y10 : w.heap.size ≠ bp := by omega
    have y1 : w.heap.size + 1 ≠ bp := by omega
    have y2 : w.heap.size + 1 + 1 ≠ bp := by omega
    have y3 : w.heap.size + 1 ≠ bp + 1 := by omega
    have y4 : w.heap.size + 1 + 1 ≠ bp + 1 := by omega
    have y5 : bp ≠ w.heap.size + 1 := by omega
    have y6 : bp ≠ w.heap.size + 1 + 1 := by omega
    have y7 : bp + 1 ≠ w.heap.size + 1 := by omega
    have y8 : bp + 1 ≠ w.heap.size + 1 + 1 := by omega
    clear hw2
    go_region_held3 (fun w' => w'.cell? ⟨w.heap.size, 0, none⟩ = some (.bool s3) ∧ w'.cell? ⟨w.heap.size, 1, none⟩ = some (.int .i64 f) ∧ w'.cell? ⟨w.heap.size, 2, none⟩ = some (.int .i64 g) ∧ w'.cell? ⟨bp, 0, none⟩ = some (.bool p1) ∧ w'.cell? ⟨bp, 1, none⟩ = some (.int .i64 p2) ∧ w'.cell? ⟨bp, 2, none⟩ = some (.int .i64 p3) ∧ w'.cell? ⟨bp + 1, 0, none⟩ = some (.bool q1) ∧ w'.cell? ⟨bp + 1, 1, none⟩ = some (.int .i64 q2) ∧ w'.cell? ⟨bp + 1, 2, none⟩ = some (.int .i64 q3)) (go_keep) (first | (go_at_call 23; with_reducible refine (D1.out _ (by assumption)).mono ?_; rintro e wx ⟨⟨rfl, hbx⟩, hcx⟩; have N := (by first | exact N.later hbx | exact N.drew.later hbx : S3 wx _ _ _ _); have M := (by first | exact M.later hbx | exact M.drew.later hbx : S3 wx _ _ _ _); obtain ⟨⟨N0, N1, N2⟩, ⟨Nf, Ng, Nh⟩, Nz⟩ := id N; obtain ⟨⟨M0, M1, M2⟩, ⟨Mf, Mg, Mh⟩, Mz⟩ := id M) | (go_at_call 23; with_reducible refine (D2.out _ (by assumption)).mono ?_; rintro e wx ⟨⟨rfl, hbx⟩, hcx⟩; have N := (by first | exact N.later hbx | exact N.drew.later hbx : S3 wx _ _ _ _); have M := (by first | exact M.later hbx | exact M.drew.later hbx : S3 wx _ _ _ _); obtain ⟨⟨N0, N1, N2⟩, ⟨Nf, Ng, Nh⟩, Nz⟩ := id N; obtain ⟨⟨M0, M1, M2⟩, ⟨Mf, Mg, Mh⟩, Mz⟩ := id M))
    all_goals
      go_wp2
      refine bodyPost_ret (v := .tuple #[.agg #[.bool u1, .int .i64 u2, .int .i64 u3], .agg #[.bool v1, .int .i64 v2, .int .i64 v3]]) ?_ rfl ⟨rfl, (by repeat (first | with_reducible exact hB | with_reducible exact Below.refl _ _ | with_reducible refine Below.drew ?_ | ((with_reducible refine Below.setCell ?_ ?_ _); rotate_left; (focus (first | (simp; done) | omega | (simp; omega)))) | with_reducible refine old_alloc ?_ _ | with_reducible refine old_trans ?_ (by with_reducible assumption)))⟩
      simp [results, Tryz.results52, go_sem, N0, N1, N2, M0, M1, M2]
end Go.Proofs.YtpjagplloljefaaGreat
