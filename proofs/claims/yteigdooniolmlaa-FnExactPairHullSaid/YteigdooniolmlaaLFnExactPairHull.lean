/- The program's PairHull answers as the specification's PairHull at every argument; nothing that was there is written. No condition. -/
import Derived.Test.YteigdooniolmlaaRows
import Derived.WalkKit
import Derived.ProofKit
import Derived.OpenShut
import Derived.Below
import Derived.Carry
import Derived.Test.YteigdooniolmlaaO1
import Derived.Test.YteigdooniolmlaaR9
import Derived.Test.YteigdooniolmlaaCut
import Derived.Test.YteigdooniolmlaaJ0
import Derived.Test.YteigdooniolmlaaJ1
import Derived.Test.YteigdooniolmlaaJ4
import Derived.Test.YteigdooniolmlaaJ5
import Derived.Test.YteigdooniolmlaaJ6
namespace Go.Proofs.Yteigdooniolmlaa
open Go.ChangeShapes Go.WideShapes Go.ChangeAt Go.RowKit
set_option linter.unusedVariables false

theorem FnExactPairHull_own : ownKnob Try.prog.godebug = none := by kernel_rfl

set_option maxRecDepth 100000 in
set_option maxHeartbeats 4000000 in
theorem FnExactPairHull_walk (a0 : Int) (wa0 : -9223372036854775808 ≤ a0 ∧ a0 ≤ 9223372036854775807) (a1 b1 : Int) (wa1 : -9223372036854775808 ≤ a1 ∧ a1 ≤ 9223372036854775807) (wb1 : -9223372036854775808 ≤ b1 ∧ b1 ≤ 9223372036854775807) (a2 b2 : Int) (wa2 : -9223372036854775808 ≤ a2 ∧ a2 ≤ 9223372036854775807) (wb2 : -9223372036854775808 ≤ b2 ∧ b2 ≤ 9223372036854775807) (w : World) :
    Calls Try.prog 9 #[.int .i64 a0, .agg #[.int .i64 a1, .int .i64 b1], .agg #[.int .i64 a2, .int .i64 b2]] w fun e w' => e = .returned (.bool true) ∧ Below w.heap.size w w' := by
  have S := hd (sPairHull a0 a1 b1 a2 b2)
  have I := hd (iPairHull a0 a1 b1 a2 b2)
  rw [pairV_eq] at S I
  generalize hullB a0 a1 b1 a2 b2 = r at *
  generalize (if r then min a1 a2 else 0) = x at *
  generalize (if r then max b1 b2 else 0) = y at *
  have E := hd (eqPair_same x y)
  have n1 : w.heap.size ≠ w.heap.size + 1 + 1 := by omega
  have n2 : w.heap.size + 1 + 1 ≠ w.heap.size := by omega
  have K : Cel2 ((w.alloc (.cells #[.int .i64 a1, .int .i64 b1] 39)).alloc (.cells #[.int .i64 a2, .int .i64 b2] 39)) w.heap.size (.int .i64 a1) (.int .i64 b1) := (Cel2.made w _ rfl _ _ _).alloc _
  have M : Cel2 ((w.alloc (.cells #[.int .i64 a1, .int .i64 b1] 39)).alloc (.cells #[.int .i64 a2, .int .i64 b2] 39)) (w.heap.size + 1) (.int .i64 a2) (.int .i64 b2) := Cel2.made _ _ (by simp) _ _ _
  go_enter Try.func9, Try.ntmps9
  go_upto_region 1 with fail
  go_cut [7, 8] (fun s t wx => ∃ b, s = .pointer (some ⟨b, 0, none⟩) ∧ t = .bool r ∧ Cel2 wx b (.int .i64 x) (.int .i64 y) ∧ Cel2 wx (w.heap.size) (.int .i64 a1) (.int .i64 b1) ∧ Cel2 wx (w.heap.size + 1) (.int .i64 a2) (.int .i64 b2) ∧ Below w.heap.size w wx)
  case first =>
    go_wp2_with fail
    go_region_held3 (fun w' => w'.cell? ⟨w.heap.size, 0, none⟩ = some (.int .i64 a1) ∧ w'.cell? ⟨w.heap.size, 1, none⟩ = some (.int .i64 b1) ∧ w'.cell? ⟨w.heap.size + 1, 0, none⟩ = some (.int .i64 a2) ∧ w'.cell? ⟨w.heap.size + 1, 1, none⟩ = some (.int .i64 b2)) (go_keep) (first | (go_at_call_of 27 (Value.agg #[.int .i64 a1, .int .i64 b1]); refine (toPair a1 b1 _).mono ?_; rintro e wx ⟨rfl, hbx⟩; have K := (by first | exact K.later hbx | exact K.drew.later hbx | exact (K.alloc _).later hbx | exact (K.drew.alloc _).later hbx | exact (K.alloc _).drew.later hbx : Cel2 wx _ _ _); have K0 := K.1; have K1 := K.2.1; have Kz := K.2.2.2.2; have Kn := Nat.ne_of_lt Kz; have Ko := Nat.ne_of_gt Kz; have M := (by first | exact M.later hbx | exact M.drew.later hbx | exact (M.alloc _).later hbx | exact (M.drew.alloc _).later hbx | exact (M.alloc _).drew.later hbx : Cel2 wx _ _ _); have M0 := M.1; have M1 := M.2.1; have Mz := M.2.2.2.2; have Mn := Nat.ne_of_lt Mz; have Mo := Nat.ne_of_gt Mz; (first | (have N := N.later hbx; have N0 := N.1; have N1 := N.2.1; have N2 := N.2.2.1; have N3 := N.2.2.2.1; have Nz := N.2.2.2.2) | (have N := N.drew.later hbx; have N0 := N.1; have N1 := N.2.1; have N2 := N.2.2.1; have N3 := N.2.2.2.1; have Nz := N.2.2.2.2) | (have N := (Cel2.made _ _ rfl (.int .i64 0) (.int .i64 0) 24).later hbx; (try simp only [World.size_alloc] at N); have N0 := N.1; have N1 := N.2.1; have N2 := N.2.2.1; have N3 := N.2.2.2.1; have Nz := N.2.2.2.2) | (have N := (Cel2.made _ _ rfl (.int .i64 0) (.int .i64 0) 24).drew.later hbx; (try simp only [World.size_alloc] at N); have N0 := N.1; have N1 := N.2.1; have N2 := N.2.2.1; have N3 := N.2.2.2.1; have Nz := N.2.2.2.2) | skip)) | (go_at_call_of 27 (Value.agg #[.int .i64 a2, .int .i64 b2]); refine (toPair a2 b2 _).mono ?_; rintro e wx ⟨rfl, hbx⟩; have K := (by first | exact K.later hbx | exact K.drew.later hbx | exact (K.alloc _).later hbx | exact (K.drew.alloc _).later hbx | exact (K.alloc _).drew.later hbx : Cel2 wx _ _ _); have K0 := K.1; have K1 := K.2.1; have Kz := K.2.2.2.2; have Kn := Nat.ne_of_lt Kz; have Ko := Nat.ne_of_gt Kz; have M := (by first | exact M.later hbx | exact M.drew.later hbx | exact (M.alloc _).later hbx | exact (M.drew.alloc _).later hbx | exact (M.alloc _).drew.later hbx : Cel2 wx _ _ _); have M0 := M.1; have M1 := M.2.1; have Mz := M.2.2.2.2; have Mn := Nat.ne_of_lt Mz; have Mo := Nat.ne_of_gt Mz; (first | (have N := N.later hbx; have N0 := N.1; have N1 := N.2.1; have N2 := N.2.2.1; have N3 := N.2.2.2.1; have Nz := N.2.2.2.2) | (have N := N.drew.later hbx; have N0 := N.1; have N1 := N.2.1; have N2 := N.2.2.1; have N3 := N.2.2.2.1; have Nz := N.2.2.2.2) | (have N := (Cel2.made _ _ rfl (.int .i64 0) (.int .i64 0) 24).later hbx; (try simp only [World.size_alloc] at N); have N0 := N.1; have N1 := N.2.1; have N2 := N.2.2.1; have N3 := N.2.2.2.1; have Nz := N.2.2.2.2) | (have N := (Cel2.made _ _ rfl (.int .i64 0) (.int .i64 0) 24).drew.later hbx; (try simp only [World.size_alloc] at N); have N0 := N.1; have N1 := N.2.1; have N2 := N.2.2.1; have N3 := N.2.2.2.1; have Nz := N.2.2.2.2) | skip)) | (go_at_call 31; refine (S.out _).mono ?_; rintro e wx ⟨rfl, hbx⟩; have K := (by first | exact K.later hbx | exact K.drew.later hbx | exact (K.alloc _).later hbx | exact (K.drew.alloc _).later hbx | exact (K.alloc _).drew.later hbx : Cel2 wx _ _ _); have K0 := K.1; have K1 := K.2.1; have Kz := K.2.2.2.2; have Kn := Nat.ne_of_lt Kz; have Ko := Nat.ne_of_gt Kz; have M := (by first | exact M.later hbx | exact M.drew.later hbx | exact (M.alloc _).later hbx | exact (M.drew.alloc _).later hbx | exact (M.alloc _).drew.later hbx : Cel2 wx _ _ _); have M0 := M.1; have M1 := M.2.1; have Mz := M.2.2.2.2; have Mn := Nat.ne_of_lt Mz; have Mo := Nat.ne_of_gt Mz; (first | (have N := N.later hbx; have N0 := N.1; have N1 := N.2.1; have N2 := N.2.2.1; have N3 := N.2.2.2.1; have Nz := N.2.2.2.2) | (have N := N.drew.later hbx; have N0 := N.1; have N1 := N.2.1; have N2 := N.2.2.1; have N3 := N.2.2.2.1; have Nz := N.2.2.2.2) | (have N := (Cel2.made _ _ rfl (.int .i64 0) (.int .i64 0) 24).later hbx; (try simp only [World.size_alloc] at N); have N0 := N.1; have N1 := N.2.1; have N2 := N.2.2.1; have N3 := N.2.2.2.1; have Nz := N.2.2.2.2) | (have N := (Cel2.made _ _ rfl (.int .i64 0) (.int .i64 0) 24).drew.later hbx; (try simp only [World.size_alloc] at N); have N0 := N.1; have N1 := N.2.1; have N2 := N.2.2.1; have N3 := N.2.2.2.1; have Nz := N.2.2.2.2) | skip)))
    all_goals
      go_wp2_with fail
      go_meet
      exact ⟨_, rfl, rfl, (by first | exact N.stored _ _ | exact (N.stored _ _).drew | exact Cel2.made _ _ rfl _ _ _ | exact (Cel2.made _ _ rfl _ _ _).drew), (by first | exact K | exact K.alloc _ | exact K.drew | exact (K.alloc _).drew | exact K.others _ (by omega) _ _ | exact (K.others _ (by omega) _ _).drew), (by first | exact M | exact M.alloc _ | exact M.drew | exact (M.alloc _).drew | exact M.others _ (by omega) _ _ | exact (M.others _ (by omega) _ _).drew), (by repeat (first | exact Below.refl _ _ | refine Below.drew ?_ | refine Below.setCell ?_ (by first | (simp; done) | omega | (simp; omega)) _ | refine old_alloc ?_ _ | refine old_trans ?_ (by assumption)))⟩
  case rest =>
    obtain ⟨bx, hs7, hs8, X, K, M, hB⟩ := hcut
    subst hs7 hs8
    have K0 := K.1
    have K1 := K.2.1
    have Kz := K.2.2.2.2
    have Kn := Nat.ne_of_lt Kz
    have Ko := Nat.ne_of_gt Kz
    have M0 := M.1
    have M1 := M.2.1
    have Mz := M.2.2.2.2
    have Mn := Nat.ne_of_lt Mz
    have Mo := Nat.ne_of_gt Mz
    have X0 := X.1
    have X1 := X.2.1
    have Xz := X.2.2.2.2
    have Xn := Nat.ne_of_lt Xz
    have Xo := Nat.ne_of_gt Xz
    go_upto_region 2 with fail
    go_cut [9, 10] (fun s t wx => ∃ b, s = .pointer (some ⟨b, 0, none⟩) ∧ t = .bool r ∧ Cel2 wx b (.int .i64 x) (.int .i64 y) ∧ Cel2 wx bx (.int .i64 x) (.int .i64 y) ∧ Below w.heap.size w wx)
    case first =>
      go_wp2_with fail
      go_region_held3 (fun w' => w'.cell? ⟨w.heap.size, 0, none⟩ = some (.int .i64 a1) ∧ w'.cell? ⟨w.heap.size, 1, none⟩ = some (.int .i64 b1) ∧ w'.cell? ⟨w.heap.size + 1, 0, none⟩ = some (.int .i64 a2) ∧ w'.cell? ⟨w.heap.size + 1, 1, none⟩ = some (.int .i64 b2)) (go_keep) (first | (go_at_call_of 27 (Value.agg #[.int .i64 a1, .int .i64 b1]); refine (toPair a1 b1 _).mono ?_; rintro e wx ⟨rfl, hbx⟩; have K := (by first | exact K.later hbx | exact K.drew.later hbx | exact (K.alloc _).later hbx | exact (K.drew.alloc _).later hbx | exact (K.alloc _).drew.later hbx : Cel2 wx _ _ _); have K0 := K.1; have K1 := K.2.1; have Kz := K.2.2.2.2; have Kn := Nat.ne_of_lt Kz; have Ko := Nat.ne_of_gt Kz; have M := (by first | exact M.later hbx | exact M.drew.later hbx | exact (M.alloc _).later hbx | exact (M.drew.alloc _).later hbx | exact (M.alloc _).drew.later hbx : Cel2 wx _ _ _); have M0 := M.1; have M1 := M.2.1; have Mz := M.2.2.2.2; have Mn := Nat.ne_of_lt Mz; have Mo := Nat.ne_of_gt Mz; have X := (by first | exact X.later hbx | exact X.drew.later hbx | exact (X.alloc _).later hbx | exact (X.drew.alloc _).later hbx | exact (X.alloc _).drew.later hbx : Cel2 wx _ _ _); have X0 := X.1; have X1 := X.2.1; have Xz := X.2.2.2.2; have Xn := Nat.ne_of_lt Xz; have Xo := Nat.ne_of_gt Xz; (first | (have N := N.later hbx; have N0 := N.1; have N1 := N.2.1; have N2 := N.2.2.1; have N3 := N.2.2.2.1; have Nz := N.2.2.2.2) | (have N := N.drew.later hbx; have N0 := N.1; have N1 := N.2.1; have N2 := N.2.2.1; have N3 := N.2.2.2.1; have Nz := N.2.2.2.2) | (have N := (Cel2.made _ _ rfl (.int .i64 0) (.int .i64 0) 24).later hbx; (try simp only [World.size_alloc] at N); have N0 := N.1; have N1 := N.2.1; have N2 := N.2.2.1; have N3 := N.2.2.2.1; have Nz := N.2.2.2.2) | (have N := (Cel2.made _ _ rfl (.int .i64 0) (.int .i64 0) 24).drew.later hbx; (try simp only [World.size_alloc] at N); have N0 := N.1; have N1 := N.2.1; have N2 := N.2.2.1; have N3 := N.2.2.2.1; have Nz := N.2.2.2.2) | skip)) | (go_at_call_of 27 (Value.agg #[.int .i64 a2, .int .i64 b2]); refine (toPair a2 b2 _).mono ?_; rintro e wx ⟨rfl, hbx⟩; have K := (by first | exact K.later hbx | exact K.drew.later hbx | exact (K.alloc _).later hbx | exact (K.drew.alloc _).later hbx | exact (K.alloc _).drew.later hbx : Cel2 wx _ _ _); have K0 := K.1; have K1 := K.2.1; have Kz := K.2.2.2.2; have Kn := Nat.ne_of_lt Kz; have Ko := Nat.ne_of_gt Kz; have M := (by first | exact M.later hbx | exact M.drew.later hbx | exact (M.alloc _).later hbx | exact (M.drew.alloc _).later hbx | exact (M.alloc _).drew.later hbx : Cel2 wx _ _ _); have M0 := M.1; have M1 := M.2.1; have Mz := M.2.2.2.2; have Mn := Nat.ne_of_lt Mz; have Mo := Nat.ne_of_gt Mz; have X := (by first | exact X.later hbx | exact X.drew.later hbx | exact (X.alloc _).later hbx | exact (X.drew.alloc _).later hbx | exact (X.alloc _).drew.later hbx : Cel2 wx _ _ _); have X0 := X.1; have X1 := X.2.1; have Xz := X.2.2.2.2; have Xn := Nat.ne_of_lt Xz; have Xo := Nat.ne_of_gt Xz; (first | (have N := N.later hbx; have N0 := N.1; have N1 := N.2.1; have N2 := N.2.2.1; have N3 := N.2.2.2.1; have Nz := N.2.2.2.2) | (have N := N.drew.later hbx; have N0 := N.1; have N1 := N.2.1; have N2 := N.2.2.1; have N3 := N.2.2.2.1; have Nz := N.2.2.2.2) | (have N := (Cel2.made _ _ rfl (.int .i64 0) (.int .i64 0) 24).later hbx; (try simp only [World.size_alloc] at N); have N0 := N.1; have N1 := N.2.1; have N2 := N.2.2.1; have N3 := N.2.2.2.1; have Nz := N.2.2.2.2) | (have N := (Cel2.made _ _ rfl (.int .i64 0) (.int .i64 0) 24).drew.later hbx; (try simp only [World.size_alloc] at N); have N0 := N.1; have N1 := N.2.1; have N2 := N.2.2.1; have N3 := N.2.2.2.1; have Nz := N.2.2.2.2) | skip)) | (go_at_call 25; refine (I.out _).mono ?_; rintro e wx ⟨rfl, hbx⟩; have K := (by first | exact K.later hbx | exact K.drew.later hbx | exact (K.alloc _).later hbx | exact (K.drew.alloc _).later hbx | exact (K.alloc _).drew.later hbx : Cel2 wx _ _ _); have K0 := K.1; have K1 := K.2.1; have Kz := K.2.2.2.2; have Kn := Nat.ne_of_lt Kz; have Ko := Nat.ne_of_gt Kz; have M := (by first | exact M.later hbx | exact M.drew.later hbx | exact (M.alloc _).later hbx | exact (M.drew.alloc _).later hbx | exact (M.alloc _).drew.later hbx : Cel2 wx _ _ _); have M0 := M.1; have M1 := M.2.1; have Mz := M.2.2.2.2; have Mn := Nat.ne_of_lt Mz; have Mo := Nat.ne_of_gt Mz; have X := (by first | exact X.later hbx | exact X.drew.later hbx | exact (X.alloc _).later hbx | exact (X.drew.alloc _).later hbx | exact (X.alloc _).drew.later hbx : Cel2 wx _ _ _); have X0 := X.1; have X1 := X.2.1; have Xz := X.2.2.2.2; have Xn := Nat.ne_of_lt Xz; have Xo := Nat.ne_of_gt Xz; (first | (have N := N.later hbx; have N0 := N.1; have N1 := N.2.1; have N2 := N.2.2.1; have N3 := N.2.2.2.1; have Nz := N.2.2.2.2) | (have N := N.drew.later hbx; have N0 := N.1; have N1 := N.2.1; have N2 := N.2.2.1; have N3 := N.2.2.2.1; have Nz := N.2.2.2.2) | (have N := (Cel2.made _ _ rfl (.int .i64 0) (.int .i64 0) 24).later hbx; (try simp only [World.size_alloc] at N); have N0 := N.1; have N1 := N.2.1; have N2 := N.2.2.1; have N3 := N.2.2.2.1; have Nz := N.2.2.2.2) | (have N := (Cel2.made _ _ rfl (.int .i64 0) (.int .i64 0) 24).drew.later hbx; (try simp only [World.size_alloc] at N); have N0 := N.1; have N1 := N.2.1; have N2 := N.2.2.1; have N3 := N.2.2.2.1; have Nz := N.2.2.2.2) | skip)))
      all_goals
        go_wp2_with fail
        go_meet
        exact ⟨_, rfl, rfl, (by first | exact N.stored _ _ | exact (N.stored _ _).drew | exact Cel2.made _ _ rfl _ _ _ | exact (Cel2.made _ _ rfl _ _ _).drew), (by first | exact X | exact X.alloc _ | exact X.drew | exact (X.alloc _).drew | exact X.others _ (by omega) _ _ | exact (X.others _ (by omega) _ _).drew), (by repeat (first | exact Below.refl _ _ | refine Below.drew ?_ | refine Below.setCell ?_ (by first | (simp; done) | omega | (simp; omega)) _ | refine old_alloc ?_ _ | refine old_trans ?_ (by assumption)))⟩
    case rest =>
      obtain ⟨cx, hs9, hs10, G, X, hB⟩ := hcut
      subst hs9 hs10
      clear K0 K1 Kz Kn Ko M0 M1 Mz Mn Mo X0 X1 Xz Xn Xo
      have G0 := G.1
      have G1 := G.2.1
      have Gz := G.2.2.2.2
      have Gn := Nat.ne_of_lt Gz
      have Go := Nat.ne_of_gt Gz
      have X0 := X.1
      have X1 := X.2.1
      have Xz := X.2.2.2.2
      have Xn := Nat.ne_of_lt Xz
      have Xo := Nat.ne_of_gt Xz
      go_wp2_with fail
      refine (E.out _).mono ?_
      rintro e w1 ⟨rfl, hb1⟩
      go_wp2
      go_ret
      exact ⟨rfl, (by repeat (first | exact Below.refl _ _ | refine Below.drew ?_ | refine old_alloc ?_ _ | refine old_trans ?_ (by assumption)))⟩

set_option maxRecDepth 100000 in
theorem FnExactPairHull_lifted (os : Os) (started : os.Started) (H : Type) (enc : TypeId × Value → H) :
    ReturnsInHanded {} Try.checked os 9 .any (Rows.fnExactPairHullSpec.pre6 enc Try.prog Try.f9 Rows.fnExactPairHullRow.domain false) (Rows.fnExactPairHullSpec.post enc Try.prog Try.f9 false true false false) := by
  refine returnsInHanded_of_change (C := Try.checked) FnExactPairHull_own started (by kernel_rfl) Try.func9
    (ChangeSpec.witness6 (enc := enc) (C := Try.checked) false ⟨#[], #[.int .i64 0, .agg #[.int .i64 0, .int .i64 0], .agg #[.int .i64 0, .int .i64 0]], []⟩ 8 (by kernel_rfl) (by kernel_rfl) (by kernel_rfl) (by kernel_rfl)) ?_
  intro W base args ds gs before hval0 hW hcnd _
  have hval : ∀ (j : Nat) t v, Try.f9.params[j]? = some t → args[j]? = some v → Value.okWide Try.prog W .any base t v := hval0
  have hW' := hW
  obtain ⟨p, q, hA0, hV, rfl, hfz, hnd⟩ := hW
  have hA : DataW.TrodAll enc Try.prog W 0 (fun _ => true) true Try.f9.params.toList args.toList ds p := hA0
  rw [Try.params9] at hA hval
  obtain ⟨v0, vs0, d0, ds0, p0, q0, hargs, rfl, rfl, h0, r0⟩ := trodAll_cons hA
  obtain ⟨v1, vs1, d1, ds1, p1, q1, rfl, rfl, rfl, h1, r1⟩ := trodAll_cons r0
  obtain ⟨v2, vs2, d2, ds2, p2, q2, rfl, rfl, rfl, h2, r2⟩ := trodAll_cons r1
  obtain ⟨rfl, rfl, rfl⟩ := trodAll_nil r2
  obtain rfl : args = #[v0, v1, v2] := by cases args; simp_all
  obtain ⟨rfl, rfl⟩ := trodVars_none hV
  have k0 := h0
  have lt0 : ∀ x ∈ p0, x.block < W.heap.size := by obtain ⟨m, hm⟩ := k0; exact DataW.trod_lt m _ _ _ hm
  obtain ⟨a0, rfl, -, -, wf0⟩ := open_int Try.underlying3 (hval 0 3 v0 rfl rfl) h0
  have wa0 := bounds_i64 wf0
  have k1 := h1
  have lt1 : ∀ x ∈ p1, x.block < W.heap.size := by obtain ⟨m, hm⟩ := k1; exact DataW.trod_lt m _ _ _ hm
  obtain ⟨a1, b1, rfl, wa1, wb1⟩ := open_lpair (hval 1 39 v1 rfl rfl) h1
  have k2 := h2
  have lt2 : ∀ x ∈ p2, x.block < W.heap.size := by obtain ⟨m, hm⟩ := k2; exact DataW.trod_lt m _ _ _ hm
  obtain ⟨a2, b2, rfl, wa2, wb2⟩ := open_lpair (hval 2 39 v2 rfl rfl) h2
  clear hA0 hval0
  refine (FnExactPairHull_walk a0 wa0 a1 b1 wa1 wb1 a2 b2 wa2 wb2 W ).mono fun e W' ⟨he, bel⟩ => ?_
  subst he
  exact ⟨_, rfl, _, _, _, [], _, [], hW', trodAll_mk1 (shut_bool Try.underlying4 _), (trodAll_cons_mk (Below.trod jf1 (by kernel_rfl) (of_decide_eq_true (by kernel_rfl)) k0 bel lt0) (trodAll_cons_mk (Below.trod jf1 (by kernel_rfl) (of_decide_eq_true (by kernel_rfl)) k1 bel lt1) (trodAll_cons_mk (Below.trod jf1 (by kernel_rfl) (of_decide_eq_true (by kernel_rfl)) k2 bel lt2) trodAll_mk0))), rfl, bel.frame _, fun h => by cases h⟩

theorem FnExactPairHull_k0 : (Rows.fnExactPairHullRow.wf (OpenSpec.ofChange Rows.fnExactPairHullSpec)) = true := by kernel_rfl
theorem FnExactPairHull_k3 : (Try.f9.params.all (Try.prog.readableRec ·)) = true := by kernel_rfl
theorem FnExactPairHull_k4 : (namedTie Try.prog Rows.fnExactPairHullRow.named Rows.fnExactPairHullSpec.vars) = true := by kernel_rfl
theorem FnExactPairHull_k5 : ((Rows.fnExactPairHullRow.stops == [])) = true := by kernel_rfl
theorem FnExactPairHull_k7 : ((Rows.fnExactPairHullRow.knobs == [])) = true := by kernel_rfl
theorem FnExactPairHull_k9 : ((Rows.fnExactPairHullRow.inPlace == Try.prog.inPlace 9)) = true := by kernel_rfl
theorem FnExactPairHull_k10 : ((Rows.fnExactPairHullRow.unfollowed == Try.prog.unfollowed 9)) = true := by kernel_rfl
theorem FnExactPairHull_k11 : ((Rows.fnExactPairHullRow.recurses == Try.prog.recurses 9)) = true := by kernel_rfl
theorem FnExactPairHull_k12 : ((Rows.fnExactPairHullRow.named == Try.prog.varsNamed 9)) = true := by kernel_rfl
theorem FnExactPairHull_k13 : ((Rows.fnExactPairHullRow.maps == (Try.f9.params.toList ++ Rows.fnExactPairHullSpec.plain.varTypes Try.prog).any (Try.prog.mapsRec ·))) = true := by kernel_rfl
theorem FnExactPairHull_k14 : ((Rows.fnExactPairHullRow.ifaces == (Try.f9.params.toList ++ Rows.fnExactPairHullSpec.plain.varTypes Try.prog).any (Try.prog.ifacesRec ·))) = true := by kernel_rfl
theorem FnExactPairHull_k15 : ((Rows.fnExactPairHullRow.mapsOut == Try.prog.mapsAmong Try.f9.resultTypes.toList)) = true := by kernel_rfl
theorem FnExactPairHull_k16 : ((Rows.fnExactPairHullRow.loops == (Try.f9.params.toList ++ Rows.fnExactPairHullSpec.plain.varTypes Try.prog).any (Try.prog.loopsFrom ·))) = true := by kernel_rfl
theorem FnExactPairHull_k17 : ((Rows.fnExactPairHullRow.wideKeys == (Try.f9.params.toList ++ Rows.fnExactPairHullSpec.plain.varTypes Try.prog ++ Try.f9.resultTypes.toList).any (Try.prog.wideKeysFrom ·))) = true := by kernel_rfl
theorem FnExactPairHull_k18 : (Rows.fnExactPairHullSpec.vars.all (Try.prog.varReadable ·)) = true := by kernel_rfl
theorem FnExactPairHull_k19 : (Try.f9.resultTypes.all (fun t => Try.prog.readableRec t && decide (t < Try.prog.types.size))) = true := by kernel_rfl
theorem FnExactPairHull_k20 : ((Rows.fnExactPairHullRow.ifacesOut == Try.f9.resultTypes.toList.any (Try.prog.ifacesRec ·))) = true := by kernel_rfl
theorem FnExactPairHull_k21 : ((Rows.fnExactPairHullRow.loopsOut == Try.f9.resultTypes.toList.any (Try.prog.loopsFrom ·))) = true := by kernel_rfl
theorem FnExactPairHull_k23 : (Rows.fnExactPairHullRow.shortTexts.isNone) = true := by kernel_rfl
theorem FnExactPairHull_k28 : ((Rows.fnExactPairHullRow.kinds == (if Rows.fnExactPairHullRow.domain.isEmpty then [] else Try.f9.params.toList.map fun t => match Try.prog.underlying t with | some (.int k) => some k | _ => none))) = true := by kernel_rfl
theorem FnExactPairHull_k29 : ((Rows.fnExactPairHullRow.pinned == Rows.fnExactPairHullRow.pinnedBy)) = true := by kernel_rfl
theorem FnExactPairHull_k30 : ((Rows.fnExactPairHullRow.veiled == (Try.f9.params.toList ++ Rows.fnExactPairHullSpec.plain.varTypes Try.prog ++ Try.f9.resultTypes.toList).any (Try.prog.veiledRec ·))) = true := by kernel_rfl
theorem FnExactPairHull_k31 : (Rows.fnExactPairHullRow.veiledFits Try.prog Try.f9.params.toList (Try.f9.params.toList ++ Rows.fnExactPairHullSpec.plain.varTypes Try.prog ++ Try.f9.resultTypes.toList)) = true := by kernel_rfl
set_option maxRecDepth 100000 in
theorem FnExactPairHull_closed : joinedFacts Try.prog 9 Try.f9 Rows.fnExactPairHullSpec Rows.fnExactPairHullRow = true := (and2 (and2 (and2 (and2 (and2 (and2 (and2 (and2 (and2 (and2 (and2 (and2 (and2 (and2 (and2 (and2 (and2 (and2 (and2 (and2 (and2 (and2 (and2 (and2 (and2 (and2 (and2 (and2 (and2 (and2 (and2 FnExactPairHull_k0 jf1) jf2) FnExactPairHull_k3) FnExactPairHull_k4) FnExactPairHull_k5) jf6) FnExactPairHull_k7) jf8) FnExactPairHull_k9) FnExactPairHull_k10) FnExactPairHull_k11) FnExactPairHull_k12) FnExactPairHull_k13) FnExactPairHull_k14) FnExactPairHull_k15) FnExactPairHull_k16) FnExactPairHull_k17) FnExactPairHull_k18) FnExactPairHull_k19) FnExactPairHull_k20) FnExactPairHull_k21) jf22) FnExactPairHull_k23) jf24) jf25) jf26) jf27) FnExactPairHull_k28) FnExactPairHull_k29) FnExactPairHull_k30) FnExactPairHull_k31)
theorem FnExactPairHull_over : Rows.fnExactPairHullRow.holds Try.pinned (OpenSpec.ofChange Rows.fnExactPairHullSpec) :=
  OpenClaim.holds_of_wide 9 Try.f9 rfl rfl rfl rfl rfl rfl rfl ⟨rfl, rfl, rfl, rfl, rfl⟩ rfl rfl rfl rfl rfl (by kernel_rfl) Try.func9 FnExactPairHull_closed
    (of_decide_eq_true (by kernel_rfl)) (by unfold Func.isWrapper; first | (rw [if_pos (by decide +kernel)]; kernel_rfl) | (rw [if_neg (by decide +kernel)]; exact ⟨rfl, rfl⟩))
    (fun os started H enc _ => FnExactPairHull_lifted os started H enc)

theorem FnExactPairHull_proved : Rows.FnExactPairHullSaid := FnExactPairHull_over
end Go.Proofs.Yteigdooniolmlaa
