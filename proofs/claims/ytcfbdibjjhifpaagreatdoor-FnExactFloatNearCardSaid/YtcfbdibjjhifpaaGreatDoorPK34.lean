/- The nearest float to a fraction, by the specification, at both widths. Conditions: none. Nothing that was there is written. -/
import Derived.Test.YtcfbdibjjhifpaaGreatDoorPK32
import Derived.Test.YtcfbdibjjhifpaaGreatDoorPK33
import Derived.Test.YtcfbdibjjhifpaaGreatDoorPK19
import Derived.Test.YtcfbdibjjhifpaaGreatDoorPK30
namespace Go.Proofs.YtcfbdibjjhifpaaGreatDoor
open Go.RowKit
set_option linter.unusedVariables false
set_option maxRecDepth 100000

theorem three_oldN {w' w'' : World} {b : Nat} {v0 v1 v2 : Value} (h : w'.cell? ⟨b, 0, none⟩ = some v0 ∧ w'.cell? ⟨b, 1, none⟩ = some v1 ∧ w'.cell? ⟨b, 2, none⟩ = some v2) (k : Below w'.heap.size w' w'') :
    w''.cell? ⟨b, 0, none⟩ = some v0 ∧ w''.cell? ⟨b, 1, none⟩ = some v1 ∧ w''.cell? ⟨b, 2, none⟩ = some v2 := by
  obtain ⟨a1, a2, a3⟩ := h
  exact ⟨(k.cell (World.block_lt_of_cell? _ _ a1)).trans a1, (k.cell (World.block_lt_of_cell? _ _ a2)).trans a2, (k.cell (World.block_lt_of_cell? _ _ a3)).trans a3⟩
theorem retT {b c : Int} {x : Bool} (h : c = b) : Ending.returned (.tuple #[.int .i64 b, .bool x]) = .returned (.tuple #[.int .i64 c, .bool x]) := by rw [h]
end Go.Proofs.YtcfbdibjjhifpaaGreatDoor

/- The nearest float to a fraction, by the specification: narrow ones. Conditions: none. Nothing that was there is written. -/
namespace Go.Proofs.YtcfbdibjjhifpaaGreatDoor
open Go.RowKit
set_option linter.unusedVariables false
set_option maxRecDepth 100000

theorem nr_lo32 {bg : Bool} {A B : Nat} (lA : (natL A).length ≤ 256) (lB : (natL B).length ≤ 256) (hB0 : B ≠ 0) (h : arL32 bg A B = -2139095040) : nr32 bg A B = -2139095040 + 1 := by
  have k := blO_bd32 lA lB hB0
  have e1 : loN32 bg A B = -2139095040 + 1 ∧ hiN32 bg A B = -2139095040 + 1 := by
    unfold loN32 hiN32
    unfold arL32 at h ⊢
    unfold arH32
    cases bg
    · simp at h; omega
    · cases hx : blX32 A B <;> simp [hx] at h ⊢ <;> omega
  unfold nr32 nrV
  rw [e1.1, e1.2]
  split <;> rfl
theorem nr_hi32 {bg : Bool} {A B : Nat} (lA : (natL A).length ≤ 256) (lB : (natL B).length ≤ 256) (hB0 : B ≠ 0) (h : arH32 bg A B = 2139095040) : nr32 bg A B = 2139095040 - 1 := by
  have k := blO_bd32 lA lB hB0
  have e1 : loN32 bg A B = 2139095040 - 1 ∧ hiN32 bg A B = 2139095040 - 1 := by
    unfold loN32 hiN32
    unfold arH32 at h ⊢
    unfold arL32
    cases bg
    · cases hx : blX32 A B <;> simp [hx] at h ⊢ <;> omega
    · simp at h; omega
  unfold nr32 nrV
  rw [e1.1, e1.2]
  split <;> rfl
theorem nr_in32 {bg : Bool} {A B : Nat} (lA : (natL A).length ≤ 256) (lB : (natL B).length ≤ 256) (hB0 : B ≠ 0) (h : arL32 bg A B ≠ -2139095040) (h' : arH32 bg A B ≠ 2139095040) : loN32 bg A B = arL32 bg A B ∧ hiN32 bg A B = arH32 bg A B ∧ (-2139095040 < arL32 bg A B ∧ arL32 bg A B < 2139095040) ∧ (-2139095040 < arH32 bg A B ∧ arH32 bg A B < 2139095040) := by
  have k := blO_bd32 lA lB hB0
  unfold loN32 hiN32
  unfold arL32 at h ⊢
  unfold arH32 at h' ⊢
  cases bg <;> cases hx : blX32 A B <;> simp [hx] at h h' ⊢ <;> omega
set_option maxHeartbeats 64000000 in
theorem sNear32 (bg : Bool) (a b : Option Addr) (ca cb A B : Nat) (w : World) (hA : InI w a (natL A).length ca (natL A)) (hB : InI w b (natL B).length cb (natL B)) (hf : fracOk bg (natL A) (natL B) = true) :
    Calls Tryz.prog 7 #[.int .i64 32, .agg #[.bool bg, .slice a (natL A).length ca, .slice b (natL B).length cb]] w fun e w' => e = .returned (.tuple #[.int .i64 (nr32 bg A B), .bool true]) ∧ Below w.heap.size w w' := by
  have q := fracOk_in hf
  have q1 := (natOk_in q.1).1
  have q2 := (natOk_in q.2.1).1
  have hy0 : B ≠ 0 := fun e => q.2.2.1 (by rw [e, natL_zero]; rfl)
  have e0 : Below w.heap.size w (w.alloc (.cells #[.bool bg, .slice a (natL A).length ca, .slice b (natL B).length cb] 28)) := (by repeat (first | exact Below.refl _ _ | refine Below.drew ?_ | refine old_alloc ?_ _ | refine old_trans ?_ (by assumption)))
  have K := Cel3.new w (.bool bg) (.slice a (natL A).length ca) (.slice b (natL B).length cb) 28
  have WI := hd sWid32
  have OK := hd (fun w' (h : Below w.heap.size w w') => sFracOk bg a b (natL A).length (natL B).length ca cb (natL A) (natL B) w' (hA.old h) (hB.old h))
  rw [hf] at OK
  have FL := hd (sFracL bg a b (natL A).length (natL B).length ca cb)
  have R1 := hd (fun w' (h : Below w.heap.size w w') => sRound32 false bg a b ca cb A B w' (hA.old h) (hB.old h) q1 q2 hy0)
  have R2 := hd (fun w' (h : Below w.heap.size w w') => sRound32 true bg a b ca cb A B w' (hA.old h) (hB.old h) q1 q2 hy0)
  change Hid (∀ w', Below w.heap.size w w' → Calls _ _ _ w' fun e w'' => e = .returned (.int .i64 (arL32 bg A B)) ∧ _) at R1
  change Hid (∀ w', Below w.heap.size w w' → Calls _ _ _ w' fun e w'' => e = .returned (.int .i64 (arH32 bg A B)) ∧ _) at R2
  have TO := hd sBitTop_32
  by_cases c1 : arL32 bg A B = -2139095040
  · rw [nr_lo32 q1 q2 hy0 c1]
    rw [c1] at R1
    clear hA hB q q1 q2 hy0 hf c1
    generalize arH32 bg A B = hi at *
    go_enter Tryz.func7, Tryz.ntmps7
    go_upto_region 1 with fail
    generalize (w.alloc (.cells #[.bool bg, .slice a (natL A).length ca, .slice b (natL B).length cb] 28)) = W at *
    obtain ⟨k0, ⟨k1, k2, k3⟩, -⟩ := id K
    go_wp2_with fail
    refine (WI.out _).mono ?_
    rintro e w0 ⟨rfl, rfl⟩
    go_wp2_with fail
    refine (OK.out _ e0).mono ?_
    rintro e w1 ⟨rfl, hb1⟩
    replace K := K.old hb1
    replace e0 := old_trans e0 hb1
    clear k0 k1 k2 k3 hb1
    obtain ⟨k0, ⟨k1, k2, k3⟩, -⟩ := id K
    go_wp2_with fail
    refine (FL.out _).mono ?_
    rintro e w2 ⟨rfl, hb2⟩
    replace K := K.old hb2
    replace e0 := old_trans e0 hb2
    clear k0 k1 k2 k3 hb2
    go_wp2_with fail
    refine (R1.out _ e0).mono ?_
    rintro e w3 ⟨rfl, hb3⟩
    replace K := K.old hb3
    replace e0 := old_trans e0 hb3
    clear hb3
    obtain ⟨k0, ⟨k1, k2, k3⟩, -⟩ := id K
    go_wp2_with fail
    refine (FL.out _).mono ?_
    rintro e w4 ⟨rfl, hb4⟩
    replace K := K.old hb4
    replace e0 := old_trans e0 hb4
    clear k0 k1 k2 k3 hb4
    go_wp2_with fail
    refine (R2.out _ e0).mono ?_
    rintro e w5 ⟨rfl, hb5⟩
    replace K := K.old hb5
    replace e0 := old_trans e0 hb5
    clear hb5
    obtain ⟨k0, ⟨k1, k2, k3⟩, -⟩ := id K
    go_wp2_with fail
    refine (TO.out _).mono ?_
    rintro e w6 ⟨rfl, rfl⟩
    go_wp2
    go_ret2
    exact ⟨rfl, e0⟩
  by_cases c2 : arH32 bg A B = 2139095040
  · rw [nr_hi32 q1 q2 hy0 c2]
    rw [c2] at R2
    clear hA hB q q1 q2 hy0 hf c2
    generalize arL32 bg A B = lo at *
    go_enter Tryz.func7, Tryz.ntmps7
    go_upto_region 1 with fail
    generalize (w.alloc (.cells #[.bool bg, .slice a (natL A).length ca, .slice b (natL B).length cb] 28)) = W at *
    obtain ⟨k0, ⟨k1, k2, k3⟩, -⟩ := id K
    go_wp2_with fail
    refine (WI.out _).mono ?_
    rintro e w0 ⟨rfl, rfl⟩
    go_wp2_with fail
    refine (OK.out _ e0).mono ?_
    rintro e w1 ⟨rfl, hb1⟩
    replace K := K.old hb1
    replace e0 := old_trans e0 hb1
    clear k0 k1 k2 k3 hb1
    obtain ⟨k0, ⟨k1, k2, k3⟩, -⟩ := id K
    go_wp2_with fail
    refine (FL.out _).mono ?_
    rintro e w2 ⟨rfl, hb2⟩
    replace K := K.old hb2
    replace e0 := old_trans e0 hb2
    clear k0 k1 k2 k3 hb2
    go_wp2_with fail
    refine (R1.out _ e0).mono ?_
    rintro e w3 ⟨rfl, hb3⟩
    replace K := K.old hb3
    replace e0 := old_trans e0 hb3
    clear hb3
    obtain ⟨k0, ⟨k1, k2, k3⟩, -⟩ := id K
    go_wp2_with fail
    refine (FL.out _).mono ?_
    rintro e w4 ⟨rfl, hb4⟩
    replace K := K.old hb4
    replace e0 := old_trans e0 hb4
    clear k0 k1 k2 k3 hb4
    go_wp2_with fail
    refine (R2.out _ e0).mono ?_
    rintro e w5 ⟨rfl, hb5⟩
    replace K := K.old hb5
    replace e0 := old_trans e0 hb5
    clear hb5
    obtain ⟨k0, ⟨k1, k2, k3⟩, -⟩ := id K
    go_wp2_with fail
    refine (TO.out _).mono ?_
    rintro e w6 ⟨rfl, rfl⟩
    go_wp2
    go_ret2
    exact ⟨rfl, e0⟩
  obtain ⟨n1, n2, b1, b2⟩ := nr_in32 q1 q2 hy0 c1 c2
  obtain ⟨E, hE⟩ : ∃ E, E = nE32 bg A B (arL32 bg A B) (arH32 bg A B) := ⟨_, rfl⟩
  have hn : nr32 bg A B = nrV (arL32 bg A B) (arH32 bg A B) E := by unfold nr32; rw [n1, n2, hE]
  rw [hn]
  unfold nE32 at hE
  clear hn n1 n2
  generalize arL32 bg A B = lo at *
  generalize arH32 bg A B = hi at *
  have OL := hd (sOf32 lo b1.1 b1.2)
  have OH := hd (sOf32 hi b2.1 b2.2)
  have hp1 := pw_bd32 (show lo.natAbs < 2139095040 by omega)
  have hp2 := pw_bd32 (show hi.natAbs < 2139095040 by omega)
  have hs1 : sz 8388608 lo.natAbs < 9007199254740992 := (Nat.lt_of_lt_of_le sz_bd32 (by omega))
  have hs2 : sz 8388608 hi.natAbs < 9007199254740992 := (Nat.lt_of_lt_of_le sz_bd32 (by omega))
  have u1 := vA_256 hs1 (p := pw 8388608 (-149) lo.natAbs) (by omega)
  have u2 := vA_256 hs2 (p := pw 8388608 (-149) hi.natAbs) (by omega)
  have u3 := vB_256 (p := pw 8388608 (-149) lo.natAbs) (by omega)
  have u4 := vB_256 (p := pw 8388608 (-149) hi.natAbs) (by omega)
  clear hs1 hs2 hp1 hp2
  generalize vA (sz 8388608 lo.natAbs) (pw 8388608 (-149) lo.natAbs) = U1 at *
  generalize vB (pw 8388608 (-149) lo.natAbs) = Z1 at *
  generalize vA (sz 8388608 hi.natAbs) (pw 8388608 (-149) hi.natAbs) = U2 at *
  generalize vB (pw 8388608 (-149) hi.natAbs) = Z2 at *
  generalize hs1 : decide (lo < 0) = s1 at *
  generalize hs2 : decide (hi < 0) = s2 at *
  have CM := cmp_iff bg A B s1 s2 U1 Z1 U2 Z2 _ _ rfl rfl
  rw [← hE] at CM
  have SM := hd (fun a b c d ca cb cc cd w1 w2 w' (h1 : InI w1 a (natL U1).length ca (natL U1)) (h2 : InI w1 b (natL Z1).length cb (natL Z1)) (h3 : InI w2 c (natL U2).length cc (natL U2)) (h4 : InI w2 d (natL Z2).length cd (natL Z2)) (k1 : Below w1.heap.size w1 w') (k2 : Below w2.heap.size w2 w') => sL6Sum s1 a b _ _ ca cb _ _ s2 c d _ _ cc cd _ _ w' (h1.old k1) (h2.old k1) (h3.old k2) (h4.old k2) (digs_natL U1) (digs_natL Z1) (digs_natL U2) (digs_natL Z2) (by omega) (by omega) (by omega) (by omega))
  simp only [val_natL] at SM
  have lN : (natL (sumN s1 s2 (U1 * Z2) (U2 * Z1))).length ≤ 513 := len_sum (k := 512) (len_mul u1 u4) (len_mul u2 u3)
  have lZ : (natL (Z1 * Z2)).length ≤ 512 := len_mul u3 u4
  have l2 : (natL 2).length ≤ 1 := by rw [natL_len]; omega
  have lA2 : (natL (A * 2)).length ≤ 257 := len_mul q1 l2
  have TI := hd (fun w' (h : Below w.heap.size w w') => sTimes a _ ca _ 2 w' (hA.old h) (digs_natL A) (by unfold dig; omega) (by omega))
  rw [val_natL, show ((2 : Int).toNat) = 2 from rfl] at TI
  have CP := hd (fun g a1 c1 a2 c2 a3 c3 base base1 base2 w1 w2 w' (h1 : OI w1 base a1 c1 (natL (A * 2))) (h2 : OI w2 base1 a2 c2 (natL (sumN s1 s2 (U1 * Z2) (U2 * Z1)))) (h3 : OI w2 base2 a3 c3 (natL (Z1 * Z2))) (k0 : Below w.heap.size w w') (k1 : Below w1.heap.size w1 w') (k2 : Below w2.heap.size w2 w') => sL8Cmp bg g a1 b a2 a3 c1 cb c2 c3 (A * 2) B (sumN s1 s2 (U1 * Z2) (U2 * Z1)) (Z1 * Z2) w' (h1.inI.old k1) (hB.old k0) (h2.inI.old k2) (h3.inI.old k2) (by omega) (by omega) (by omega) (by omega))
  unfold su2S su2N at CM
  obtain ⟨N, hN⟩ : ∃ N, N = sumN s1 s2 (U1 * Z2) (U2 * Z1) := ⟨_, rfl⟩
  obtain ⟨S, hS⟩ : ∃ S, S = sumS s1 s2 (U1 * Z2) (U2 * Z1) := ⟨_, rfl⟩
  rw [← hN, ← hS] at CM
  simp only [← hN, ← hS] at SM CP
  obtain ⟨cc, hcc⟩ : ∃ cc, cc = cmpS bg (Z1 * Z2 * (A * 2)) (S && decide (N ≠ 0)) (B * N) := ⟨_, rfl⟩
  rw [← hcc] at CM
  replace CM := hd CM
  obtain ⟨gg, hgg⟩ : ∃ gg, gg = (S && decide (N ≠ 0)) := ⟨_, rfl⟩
  rw [← hgg] at hcc
  replace CP := hd (CP.out gg)
  simp only [← hcc] at CP
  have nz := lenH N
  clear hN hS hE hcc
  have rlo : Hid (E < 0 ∨ E = 0 ∧ Int.tmod lo 2 = 0 → nrV lo hi E = lo) := fun h => by unfold nrV; rw [if_pos h]
  have rhi : Hid (¬ (E < 0 ∨ E = 0 ∧ Int.tmod lo 2 = 0) → nrV lo hi E = hi) := fun h => by unfold nrV; rw [if_neg h]
  generalize nrV lo hi E = r at *
  clear hA hB q q1 q2 hy0 hf b1 b2 u1 u2 u3 u4 lN lZ l2 lA2
  generalize hxs : natL N = xs at *
  clear hxs
  have gT : S = true → N ≠ 0 → gg = true ∧ xs.length ≠ 0 := fun h k => ⟨by rw [hgg, h]; simpa using k, by omega⟩
  have gF : S = false ∨ N = 0 → gg = false := fun h => by rcases h with h | h <;> simp [hgg, h]
  clear hgg
  go_enter Tryz.func7, Tryz.ntmps7
  go_upto_region 1 with fail
  generalize (w.alloc (.cells #[.bool bg, .slice a (natL A).length ca, .slice b (natL B).length cb] 28)) = W at *
  obtain ⟨k0, ⟨k1, k2, k3⟩, -⟩ := id K
  go_wp2_with fail
  refine (WI.out _).mono ?_
  rintro e w0 ⟨rfl, rfl⟩
  go_wp2_with fail
  refine (OK.out _ e0).mono ?_
  rintro e w1 ⟨rfl, hb1⟩
  replace K := K.old hb1
  replace e0 := old_trans e0 hb1
  clear k0 k1 k2 k3 hb1
  obtain ⟨k0, ⟨k1, k2, k3⟩, -⟩ := id K
  go_wp2_with fail
  refine (FL.out _).mono ?_
  rintro e w2 ⟨rfl, hb2⟩
  replace K := K.old hb2
  replace e0 := old_trans e0 hb2
  clear k0 k1 k2 k3 hb2
  go_wp2_with fail
  refine (R1.out _ e0).mono ?_
  rintro e w3 ⟨rfl, hb3⟩
  replace K := K.old hb3
  replace e0 := old_trans e0 hb3
  clear hb3
  obtain ⟨k0, ⟨k1, k2, k3⟩, -⟩ := id K
  go_wp2_with fail
  refine (FL.out _).mono ?_
  rintro e w4 ⟨rfl, hb4⟩
  replace K := K.old hb4
  replace e0 := old_trans e0 hb4
  clear k0 k1 k2 k3 hb4
  go_wp2_with fail
  refine (R2.out _ e0).mono ?_
  rintro e w5 ⟨rfl, hb5⟩
  replace K := K.old hb5
  replace e0 := old_trans e0 hb5
  clear hb5
  obtain ⟨k0, ⟨k1, k2, k3⟩, -⟩ := id K
  go_wp2_with fail
  refine (TO.out _).mono ?_
  rintro e w6 ⟨rfl, rfl⟩
  go_wp2_with fail
  refine (OL.out _).mono ?_
  rintro e w7 ⟨⟨av, cv, bv, dv, rfl, IA, IB⟩, hb7⟩
  have L1 := Cel3.new w7 (.bool s1) (.slice av (natL U1).length cv) (.slice bv (natL Z1).length dv) 50
  have al7 : Below w7.heap.size w7 (w7.alloc (.cells #[.bool s1, .slice av (natL U1).length cv, .slice bv (natL Z1).length dv] 50)) := old_alloc (Below.refl _ _) _
  replace K := (K.old hb7).old al7
  replace e0 := old_trans (old_trans e0 hb7) al7
  replace IA := IA.old al7
  replace IB := IB.old al7
  clear hb7 al7 k0 k1 k2 k3
  go_wp2_with fail
  refine (OH.out _).mono ?_
  rintro e w8 ⟨⟨ax, cx, bx, dx, rfl, IC, ID⟩, hb8⟩
  have L2 := Cel3.new w8 (.bool s2) (.slice ax (natL U2).length cx) (.slice bx (natL Z2).length dx) 50
  have al8 : Below w8.heap.size w8 (w8.alloc (.cells #[.bool s2, .slice ax (natL U2).length cx, .slice bx (natL Z2).length dx] 50)) := old_alloc (Below.refl _ _) _
  replace K := (K.old hb8).old al8
  replace L1 := (L1.old hb8).old al8
  replace e0 := old_trans (old_trans e0 hb8) al8
  replace IA := (IA.old hb8).old al8
  replace IB := (IB.old hb8).old al8
  replace IC := IC.old al8
  replace ID := ID.old al8
  clear hb8 al8
  go_upto_region 12 with fail
  generalize w8.alloc (.cells #[.bool s2, .slice ax (natL U2).length cx, .slice bx (natL Z2).length dx] 50) = W8 at *
  generalize w7.heap.size = p7 at *
  generalize w8.heap.size = p8 at *
  obtain ⟨l0, ⟨l1, l2, l3⟩, -⟩ := id L1
  obtain ⟨m0, ⟨m1, m2, m3⟩, -⟩ := id L2
  go_wp2_with fail
  refine (SM.out _ _ _ _ _ _ _ _ _ _ _ IA IB IC ID (Below.refl _ _) (Below.refl _ _)).mono ?_
  rintro e w9 ⟨⟨a9, c9, b9, d9, rfl, O9, P9⟩, hb9⟩
  replace K := K.old hb9
  replace e0 := old_trans e0 hb9
  clear hb9 l0 l1 l2 l3 m0 m1 m2 m3 L1 L2 IA IB IC ID
  obtain ⟨k0, ⟨k1, k2, k3⟩, -⟩ := id K
  generalize w.heap.size = qq at k1 k2 k3
  by_cases hS : S = true
  · by_cases hN : N = 0
    · have hx : xs.length = 0 := by omega
      obtain rfl := gF (Or.inr hN)
      subst hS
      clear gT gF nz
      generalize xs.length = n at *
      subst hx
      have TI' := hd (fun w' (hS : w'.cell? ⟨qq, 0, none⟩ = some (.bool bg) ∧ w'.cell? ⟨qq, 1, none⟩ = some (.slice a (natL A).length ca) ∧ w'.cell? ⟨qq, 2, none⟩ = some (.slice b (natL B).length cb)) (h : Below w.heap.size w w') => (TI.out w' h).mono (fun e w'' (k : _ ∧ _) => (⟨k, three_oldN hS k.2⟩ : (_ ∧ _) ∧ (w''.cell? ⟨qq, 0, none⟩ = some (.bool bg) ∧ w''.cell? ⟨qq, 1, none⟩ = some (.slice a (natL A).length ca) ∧ w''.cell? ⟨qq, 2, none⟩ = some (.slice b (natL B).length cb)))))
      have CP' := hd (fun a1 c1 a2 c2 a3 c3 base base1 base2 w1 w2 w' (hS : w'.cell? ⟨qq, 0, none⟩ = some (.bool bg) ∧ w'.cell? ⟨qq, 1, none⟩ = some (.slice a (natL A).length ca) ∧ w'.cell? ⟨qq, 2, none⟩ = some (.slice b (natL B).length cb)) h1 h2 h3 k0 k1 k2 => (CP.out a1 c1 a2 c2 a3 c3 base base1 base2 w1 w2 w' h1 h2 h3 k0 k1 k2).mono (fun e w'' (k : _ ∧ _) => (⟨k, three_oldN hS k.2⟩ : (_ ∧ _) ∧ (w''.cell? ⟨qq, 0, none⟩ = some (.bool bg) ∧ w''.cell? ⟨qq, 1, none⟩ = some (.slice a (natL A).length ca) ∧ w''.cell? ⟨qq, 2, none⟩ = some (.slice b (natL B).length cb)))))
      have hc0 : w9.cell? ⟨qq, 0, none⟩ = some (.bool bg) ∧ w9.cell? ⟨qq, 1, none⟩ = some (.slice a (natL A).length ca) ∧ w9.cell? ⟨qq, 2, none⟩ = some (.slice b (natL B).length cb) := ⟨k1, k2, k3⟩
      go_wp2_with fail
      go_region_held3 (fun w' => w'.cell? ⟨qq, 0, none⟩ = some (.bool bg) ∧ w'.cell? ⟨qq, 1, none⟩ = some (.slice a (natL A).length ca) ∧ w'.cell? ⟨qq, 2, none⟩ = some (.slice b (natL B).length cb)) (go_keep) (first | (go_at_call 31; (with_reducible refine (TI'.out _ ?_ ?_).mono ?_); (focus assumption); (focus repeat (first | with_reducible exact Below.refl _ _ | with_reducible assumption | with_reducible refine Below.drew ?_ | with_reducible refine old_alloc ?_ _ | with_reducible refine old_trans ?_ (by with_reducible assumption))); rintro e wt ⟨⟨⟨at1, ct1, rfl, OT⟩, hbt⟩, hct⟩) | (go_at_call 30; (with_reducible refine (CP'.out _ _ _ _ _ _ _ _ _ _ _ _ ?_ OT O9 P9 ?_ ?_ ?_).mono ?_); (focus assumption); (focus repeat (first | with_reducible exact Below.refl _ _ | with_reducible assumption | with_reducible refine Below.drew ?_ | with_reducible refine old_alloc ?_ _ | with_reducible refine old_trans ?_ (by with_reducible assumption))); (focus repeat (first | with_reducible exact Below.refl _ _ | with_reducible assumption | with_reducible refine Below.drew ?_ | with_reducible refine old_alloc ?_ _ | with_reducible refine old_trans ?_ (by with_reducible assumption))); (focus repeat (first | with_reducible exact Below.refl _ _ | with_reducible assumption | with_reducible refine Below.drew ?_ | with_reducible refine old_alloc ?_ _ | with_reducible refine old_trans ?_ (by with_reducible assumption))); rintro e wz ⟨⟨rfl, hbz⟩, hcz⟩))
      all_goals
        have BZ : Below w.heap.size w wz := (by repeat (first | with_reducible exact Below.refl _ _ | with_reducible assumption | with_reducible refine Below.drew ?_ | with_reducible refine old_alloc ?_ _ | with_reducible refine old_trans ?_ (by with_reducible assumption)))
        clear TI' CP' TI CP OT O9 P9
        by_cases d1 : cc < 0
        · go_wp2
          go_ret2
          exact ⟨retT (rlo.out (Or.inl (CM.out.1.1 d1))), BZ⟩
        by_cases d2 : cc = 0
        · by_cases d3 : Int.tmod lo 2 = 0
          · go_wp2
            go_ret2
            exact ⟨retT (rlo.out (Or.inr ⟨CM.out.2.1 d2, d3⟩)), BZ⟩
          · go_wp2
            go_ret2
            exact ⟨retT (rhi.out (fun h => h.elim (fun h => absurd (CM.out.1.2 h) (by omega)) (fun h => absurd h.2 d3))), BZ⟩
        · go_wp2
          go_ret2
          exact ⟨retT (rhi.out (fun h => h.elim (fun h => absurd (CM.out.1.2 h) (by omega)) (fun h => absurd (CM.out.2.2 h.1) d2))), BZ⟩
    · obtain ⟨rfl, hx⟩ := gT hS hN
      have hx' : decide (0 < xs.length) = true := decide_eq_true (by omega)
      subst hS
      have TI' := hd (fun w' (hS : w'.cell? ⟨qq, 0, none⟩ = some (.bool bg) ∧ w'.cell? ⟨qq, 1, none⟩ = some (.slice a (natL A).length ca) ∧ w'.cell? ⟨qq, 2, none⟩ = some (.slice b (natL B).length cb)) (h : Below w.heap.size w w') => (TI.out w' h).mono (fun e w'' (k : _ ∧ _) => (⟨k, three_oldN hS k.2⟩ : (_ ∧ _) ∧ (w''.cell? ⟨qq, 0, none⟩ = some (.bool bg) ∧ w''.cell? ⟨qq, 1, none⟩ = some (.slice a (natL A).length ca) ∧ w''.cell? ⟨qq, 2, none⟩ = some (.slice b (natL B).length cb)))))
      have CP' := hd (fun a1 c1 a2 c2 a3 c3 base base1 base2 w1 w2 w' (hS : w'.cell? ⟨qq, 0, none⟩ = some (.bool bg) ∧ w'.cell? ⟨qq, 1, none⟩ = some (.slice a (natL A).length ca) ∧ w'.cell? ⟨qq, 2, none⟩ = some (.slice b (natL B).length cb)) h1 h2 h3 k0 k1 k2 => (CP.out a1 c1 a2 c2 a3 c3 base base1 base2 w1 w2 w' h1 h2 h3 k0 k1 k2).mono (fun e w'' (k : _ ∧ _) => (⟨k, three_oldN hS k.2⟩ : (_ ∧ _) ∧ (w''.cell? ⟨qq, 0, none⟩ = some (.bool bg) ∧ w''.cell? ⟨qq, 1, none⟩ = some (.slice a (natL A).length ca) ∧ w''.cell? ⟨qq, 2, none⟩ = some (.slice b (natL B).length cb)))))
      have hc0 : w9.cell? ⟨qq, 0, none⟩ = some (.bool bg) ∧ w9.cell? ⟨qq, 1, none⟩ = some (.slice a (natL A).length ca) ∧ w9.cell? ⟨qq, 2, none⟩ = some (.slice b (natL B).length cb) := ⟨k1, k2, k3⟩
      go_wp2_with fail
      go_region_held3 (fun w' => w'.cell? ⟨qq, 0, none⟩ = some (.bool bg) ∧ w'.cell? ⟨qq, 1, none⟩ = some (.slice a (natL A).length ca) ∧ w'.cell? ⟨qq, 2, none⟩ = some (.slice b (natL B).length cb)) (go_keep) (first | (go_at_call 31; (with_reducible refine (TI'.out _ ?_ ?_).mono ?_); (focus assumption); (focus repeat (first | with_reducible exact Below.refl _ _ | with_reducible assumption | with_reducible refine Below.drew ?_ | with_reducible refine old_alloc ?_ _ | with_reducible refine old_trans ?_ (by with_reducible assumption))); rintro e wt ⟨⟨⟨at1, ct1, rfl, OT⟩, hbt⟩, hct⟩) | (go_at_call 30; (with_reducible refine (CP'.out _ _ _ _ _ _ _ _ _ _ _ _ ?_ OT O9 P9 ?_ ?_ ?_).mono ?_); (focus assumption); (focus repeat (first | with_reducible exact Below.refl _ _ | with_reducible assumption | with_reducible refine Below.drew ?_ | with_reducible refine old_alloc ?_ _ | with_reducible refine old_trans ?_ (by with_reducible assumption))); (focus repeat (first | with_reducible exact Below.refl _ _ | with_reducible assumption | with_reducible refine Below.drew ?_ | with_reducible refine old_alloc ?_ _ | with_reducible refine old_trans ?_ (by with_reducible assumption))); (focus repeat (first | with_reducible exact Below.refl _ _ | with_reducible assumption | with_reducible refine Below.drew ?_ | with_reducible refine old_alloc ?_ _ | with_reducible refine old_trans ?_ (by with_reducible assumption))); rintro e wz ⟨⟨rfl, hbz⟩, hcz⟩))
      all_goals
        have BZ : Below w.heap.size w wz := (by repeat (first | with_reducible exact Below.refl _ _ | with_reducible assumption | with_reducible refine Below.drew ?_ | with_reducible refine old_alloc ?_ _ | with_reducible refine old_trans ?_ (by with_reducible assumption)))
        clear TI' CP' TI CP OT O9 P9
        by_cases d1 : cc < 0
        · go_wp2
          go_ret2
          exact ⟨retT (rlo.out (Or.inl (CM.out.1.1 d1))), BZ⟩
        by_cases d2 : cc = 0
        · by_cases d3 : Int.tmod lo 2 = 0
          · go_wp2
            go_ret2
            exact ⟨retT (rlo.out (Or.inr ⟨CM.out.2.1 d2, d3⟩)), BZ⟩
          · go_wp2
            go_ret2
            exact ⟨retT (rhi.out (fun h => h.elim (fun h => absurd (CM.out.1.2 h) (by omega)) (fun h => absurd h.2 d3))), BZ⟩
        · go_wp2
          go_ret2
          exact ⟨retT (rhi.out (fun h => h.elim (fun h => absurd (CM.out.1.2 h) (by omega)) (fun h => absurd (CM.out.2.2 h.1) d2))), BZ⟩
  · obtain rfl : S = false := by simpa using hS
    obtain rfl := gF (Or.inl rfl)
    have TI' := hd (fun w' (hS : w'.cell? ⟨qq, 0, none⟩ = some (.bool bg) ∧ w'.cell? ⟨qq, 1, none⟩ = some (.slice a (natL A).length ca) ∧ w'.cell? ⟨qq, 2, none⟩ = some (.slice b (natL B).length cb)) (h : Below w.heap.size w w') => (TI.out w' h).mono (fun e w'' (k : _ ∧ _) => (⟨k, three_oldN hS k.2⟩ : (_ ∧ _) ∧ (w''.cell? ⟨qq, 0, none⟩ = some (.bool bg) ∧ w''.cell? ⟨qq, 1, none⟩ = some (.slice a (natL A).length ca) ∧ w''.cell? ⟨qq, 2, none⟩ = some (.slice b (natL B).length cb)))))
    have CP' := hd (fun a1 c1 a2 c2 a3 c3 base base1 base2 w1 w2 w' (hS : w'.cell? ⟨qq, 0, none⟩ = some (.bool bg) ∧ w'.cell? ⟨qq, 1, none⟩ = some (.slice a (natL A).length ca) ∧ w'.cell? ⟨qq, 2, none⟩ = some (.slice b (natL B).length cb)) h1 h2 h3 k0 k1 k2 => (CP.out a1 c1 a2 c2 a3 c3 base base1 base2 w1 w2 w' h1 h2 h3 k0 k1 k2).mono (fun e w'' (k : _ ∧ _) => (⟨k, three_oldN hS k.2⟩ : (_ ∧ _) ∧ (w''.cell? ⟨qq, 0, none⟩ = some (.bool bg) ∧ w''.cell? ⟨qq, 1, none⟩ = some (.slice a (natL A).length ca) ∧ w''.cell? ⟨qq, 2, none⟩ = some (.slice b (natL B).length cb)))))
    have hc0 : w9.cell? ⟨qq, 0, none⟩ = some (.bool bg) ∧ w9.cell? ⟨qq, 1, none⟩ = some (.slice a (natL A).length ca) ∧ w9.cell? ⟨qq, 2, none⟩ = some (.slice b (natL B).length cb) := ⟨k1, k2, k3⟩
    have hB9 : Below w.heap.size w w9.drew := e0.drew
    go_wp2_with fail
    clear k0 k1 k2 k3 K
    refine wp_region_held_drew (S := fun w' => w'.cell? ⟨qq, 0, none⟩ = some (.bool bg) ∧ w'.cell? ⟨qq, 1, none⟩ = some (.slice a (natL A).length ca) ∧ w'.cell? ⟨qq, 2, none⟩ = some (.slice b (natL B).length cb)) rfl hc0 ?_
    intro hS0
    refine wpAnyH_take (i := 0) (v := ?_) rfl (by kernel_rfl) (by kernel_rfl) (by kernel_rfl) (fun _ _ _ h => h) (Or.inl ⟨by kernel_rfl, ?_⟩) hS0 ?_
    rotate_left
    · intro w' hS'; obtain ⟨s0, s1, s2⟩ := hS'; go_simp <;> with_reducible rfl
    refine wpAnyH_take (i := 1) (v := ?_) rfl (by kernel_rfl) (by kernel_rfl) (by kernel_rfl) (fun _ _ _ h => h) (Or.inl ⟨by kernel_rfl, ?_⟩) hS0 ?_
    rotate_left
    · intro w' hS'; obtain ⟨s0, s1, s2⟩ := hS'; go_simp <;> with_reducible rfl
    refine wpAnyH_take (i := 2) (v := ?_) rfl (by kernel_rfl) (by kernel_rfl) (by kernel_rfl) (fun _ _ _ h => h) (Or.inl ⟨by kernel_rfl, ?_⟩) hS0 ?_
    rotate_left
    · intro w' hS'; obtain ⟨s0, s1, s2⟩ := hS'; go_simp <;> with_reducible rfl
    refine wpAnyH_take (i := 3) (v := ?_) rfl (by kernel_rfl) (by kernel_rfl) (by kernel_rfl) (fun _ _ _ h => h) (Or.inl ⟨by kernel_rfl, ?_⟩) hS0 ?_
    rotate_left
    · intro w' hS'; obtain ⟨s0, s1, s2⟩ := hS'; go_simp <;> with_reducible rfl
    refine wpAnyH_take (i := 5) (v := ?_) rfl (by kernel_rfl) (by kernel_rfl) (by kernel_rfl) (fun _ _ _ h => h) (Or.inl ⟨by kernel_rfl, ?_⟩) hS0 ?_
    rotate_left
    · intro w' hS'; obtain ⟨s0, s1, s2⟩ := hS'; go_simp <;> with_reducible rfl
    refine wpAnyH_take (i := 6) (v := ?_) rfl (by kernel_rfl) (by kernel_rfl) (by kernel_rfl) (fun _ _ _ h => h) (Or.inl ⟨by kernel_rfl, ?_⟩) hS0 ?_
    rotate_left
    · intro w' hS'; obtain ⟨s0, s1, s2⟩ := hS'; go_simp <;> with_reducible rfl
    refine wpAnyH_take (i := 8) (v := ?_) rfl (by kernel_rfl) (by kernel_rfl) (by kernel_rfl) (fun _ _ _ h => h) (Or.inl ⟨by kernel_rfl, ?_⟩) hS0 ?_
    rotate_left
    · intro w' hS'; obtain ⟨s0, s1, s2⟩ := hS'; go_simp <;> with_reducible rfl
    refine wpAnyH_take (i := 14) (v := ?_) rfl (by kernel_rfl) (by kernel_rfl) (by kernel_rfl) (fun _ _ _ h => h) (Or.inl ⟨by kernel_rfl, ?_⟩) hS0 ?_
    rotate_left
    · intro w' hS'; obtain ⟨s0, s1, s2⟩ := hS'; go_simp <;> with_reducible rfl
    refine wpAnyH_take (i := 15) (v := ?_) rfl (by kernel_rfl) (by kernel_rfl) (by kernel_rfl) (fun _ _ _ h => h) (Or.inl ⟨by kernel_rfl, ?_⟩) hS0 ?_
    rotate_left
    · intro w' hS'; obtain ⟨s0, s1, s2⟩ := hS'; go_simp <;> with_reducible rfl
    refine wpAnyH_ready (rs := [4]) (by kernel_rfl) (by simp) ?_
    refine AllReadyH.cons rfl (fun K hK => ?_) AllReadyH.nil
    go_simp
    refine (TI'.out _ hS0 hB9).mono ?_
    rintro e wt ⟨⟨⟨at1, ct1, rfl, OT⟩, hbt⟩, hct⟩
    refine hK.out _ _ hct ?_
    intro hS1
    clear hK K
    refine wpAnyH_take (i := 7) (v := ?_) rfl (by kernel_rfl) (by kernel_rfl) (by kernel_rfl) (fun _ _ _ h => h) (Or.inl ⟨by kernel_rfl, ?_⟩) hS1 ?_
    rotate_left
    · intro w' hS'; obtain ⟨s0, s1, s2⟩ := hS'; go_simp <;> with_reducible rfl
    refine wpAnyH_take (i := 9) (v := ?_) rfl (by kernel_rfl) (by kernel_rfl) (by kernel_rfl) (fun _ _ _ h => h) (Or.inl ⟨by kernel_rfl, ?_⟩) hS1 ?_
    rotate_left
    · intro w' hS'; obtain ⟨s0, s1, s2⟩ := hS'; go_simp <;> with_reducible rfl
    refine wpAnyH_take (i := 10) (v := undef) rfl (by kernel_rfl) (by kernel_rfl) (by kernel_rfl) (fun _ _ _ h => h) (Or.inr ⟨by kernel_rfl, by kernel_rfl⟩) hS1 ?_
    refine wpAnyH_take (i := 11) (v := undef) rfl (by kernel_rfl) (by kernel_rfl) (by kernel_rfl) (fun _ _ _ h => h) (Or.inr ⟨by kernel_rfl, by kernel_rfl⟩) hS1 ?_
    refine wpAnyH_take (i := 12) (v := undef) rfl (by kernel_rfl) (by kernel_rfl) (by kernel_rfl) (fun _ _ _ h => h) (Or.inr ⟨by kernel_rfl, by kernel_rfl⟩) hS1 ?_
    refine wpAnyH_take (i := 13) (v := ?_) rfl (by kernel_rfl) (by kernel_rfl) (by kernel_rfl) (fun _ _ _ h => h) (Or.inl ⟨by kernel_rfl, ?_⟩) hS1 ?_
    rotate_left
    · intro w' hS'; obtain ⟨s0, s1, s2⟩ := hS'; go_simp <;> with_reducible rfl
    refine wpAnyH_take (i := 16) (v := ?_) rfl (by kernel_rfl) (by kernel_rfl) (by kernel_rfl) (fun _ _ _ h => h) (Or.inl ⟨by kernel_rfl, ?_⟩) hS1 ?_
    rotate_left
    · intro w' hS'; obtain ⟨s0, s1, s2⟩ := hS'; go_simp <;> with_reducible rfl
    refine wpAnyH_ready (rs := [17]) (by kernel_rfl) (by simp) ?_
    refine AllReadyH.cons rfl (fun K hK => ?_) AllReadyH.nil
    go_simp
    refine (CP'.out _ _ _ _ _ _ _ _ _ _ _ _ hS1 OT O9 P9 (old_trans hB9 hbt) (Below.refl _ _) (old_trans (Below.refl _ _).drew hbt)).mono ?_
    rintro e wz ⟨⟨rfl, hbz⟩, hcz⟩
    refine hK.out _ _ hcz ?_
    intro hS2
    clear hK K
    refine wpAnyH_take (i := 18) (v := ?_) rfl (by kernel_rfl) (by kernel_rfl) (by kernel_rfl) (fun _ _ _ h => h) (Or.inl ⟨by kernel_rfl, ?_⟩) hS2 ?_
    rotate_left
    · intro w' hS'; obtain ⟨s0, s1, s2⟩ := hS'; go_simp <;> with_reducible rfl
    refine wpAnyH_done (by kernel_rfl) ?_ _
    have BZ : Below w.heap.size w wz := old_trans (old_trans hB9 hbt) hbz
    clear TI' CP' TI CP OT O9 P9
    by_cases d1 : cc < 0
    · go_wp2
      go_ret2
      exact ⟨retT (rlo.out (Or.inl (CM.out.1.1 d1))), BZ⟩
    by_cases d2 : cc = 0
    · by_cases d3 : Int.tmod lo 2 = 0
      · go_wp2
        go_ret2
        exact ⟨retT (rlo.out (Or.inr ⟨CM.out.2.1 d2, d3⟩)), BZ⟩
      · go_wp2
        go_ret2
        exact ⟨retT (rhi.out (fun h => h.elim (fun h => absurd (CM.out.1.2 h) (by omega)) (fun h => absurd h.2 d3))), BZ⟩
    · go_wp2
      go_ret2
      exact ⟨retT (rhi.out (fun h => h.elim (fun h => absurd (CM.out.1.2 h) (by omega)) (fun h => absurd (CM.out.2.2 h.1) d2))), BZ⟩
end Go.Proofs.YtcfbdibjjhifpaaGreatDoor
